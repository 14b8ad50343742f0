/- Contract of look.agrees: whether a place agrees with what was seen. Conditions: the sizes of valid sights. -/
import Derived.Test.YtgoilmiiegpnoaaSkyG
namespace Go.Proofs.Ytgoilmiiegpnoaa
open Go.RowKit Go.Shelf
attribute [local go_sem] Ext.cell Ext.frozen Ext.lt Ext.le Ext.lt_add Ext.le_add Ext.ne Ext.ne' lt2 lt3 lt4 lt5 le2 le3 le4
/-- What a sight says. -/
inductive WordR where
  | angle (c : ConeR)
  | ring (lo hi : Int)
  | empty (c : ConeR) (hi : Int)
def WordR.val : WordR → Value
  | .angle c => .iface 133 (.agg #[.int .i64 c.dx, .int .i64 c.dy, .int .i64 c.lo, .int .i64 c.hi])
  | .ring lo hi => .iface 127 (.agg #[.int .i64 lo, .int .i64 hi])
  | .empty c hi => .iface 135 (.agg #[.int .i64 c.dx, .int .i64 c.dy, .int .i64 c.lo, .int .i64 c.hi, .int .i64 hi])
def WordR.Ok : WordR → Prop
  | .angle c => c.Ok
  | .ring lo hi => P27 lo ∧ P27 hi
  | .empty c hi => c.Ok ∧ P27 hi
def WordR.agrees : WordR → Int → Int → Bool
  | .angle c, x, y => hasB c x y
  | .ring lo hi, x, y => ringB lo hi x y
  | .empty c hi, x, y => !blocksB c hi x y
structure LookR where
  tick : Int
  frm : V2
  says : WordR
def LookR.val (k : LookR) : Value := .agg #[.int .i64 k.tick, .int .i64 k.frm.x, .int .i64 k.frm.y, k.says.val]
structure LookR.Ok (k : LookR) : Prop where
  f : vwinB k.frm 34603008 = true
  s : k.says.Ok
def LookR.agrees (k : LookR) (p : V2) : Bool := vwinB p 33554432 && k.says.agrees (p.x - k.frm.x) (p.y - k.frm.y)
theorem look_seen {k : LookR} (h : k.Ok) {p : V2} (hp : vwinB p 33554432 = true) : P27 (p.x - k.frm.x) ∧ P27 (p.y - k.frm.y) := by
  obtain ⟨⟨a1, a2⟩, a3, a4⟩ := vwinB_out h.f
  obtain ⟨⟨b1, b2⟩, b3, b4⟩ := vwinB_out hp
  unfold P27; omega
set_option maxHeartbeats 4000000 in
theorem lookAgrees_any (k : LookR) (p : V2) (w : World) (h : k.Ok) : Calls Try.prog 47 #[k.val, .agg #[.int .i64 p.x, .int .i64 p.y]] w (Gives (.bool (k.agrees p)) w) := by
  have ca := fun W => areWithin_any p.x p.y 33554432 W (by omega)
  unfold LookR.agrees
  cases hw : vwinB p 33554432
  · rw [show vwinB ⟨p.x, p.y⟩ 33554432 = false from hw] at ca
    unfold LookR.val
    clear hw h
    generalize k.tick = k1 at *
    generalize k.frm.x = k2 at *
    generalize k.frm.y = k3 at *
    generalize k.says.val = k4 at *
    generalize p.x = x at *
    generalize p.y = y at *
    go_enter Try.func47, Try.ntmps47
    go_wp2_with (first | ((first | with_reducible refine wp_region_ext2 (by kernel_rfl) (by kernel_rfl) ?_ | with_reducible refine wp_region_ext (by kernel_rfl) (by kernel_rfl) ?_); (repeat (first | go_big_quiet_step ((first | (go_at_call 64; with_reducible exact Calls.ext (ca _)))) | quiet_step ((first | (go_at_call 64; with_reducible exact Calls.ext (ca _)))))); refine wpQuiet_nil ?_; rintro _ ⟨yr, rfl⟩; have syr := Ext.size yr; (repeat (first | rw [World.size_alloc] at syr | rw [World.size_setCell] at syr | rw [World.size_drew] at syr))) | (go_at_call 64; (first | with_reducible refine (Calls.giv2 (ca _)).mono ?_ | with_reducible refine (Calls.giv (ca _)).mono ?_); rintro _ _ ⟨y1, rfl, rfl⟩; have sy1 := Ext.size y1; (repeat (first | rw [World.size_alloc] at sy1 | rw [World.size_setCell] at sy1 | rw [World.size_drew] at sy1))))
    go_returns
    refine ⟨rfl, ?_⟩
    repeat' (first | (with_reducible exact Below.refl _ _) | (with_reducible assumption) | (with_reducible refine Ext.below _ ?_ ?_) | (with_reducible refine Below.on ?_ (by with_reducible assumption) ?_) | (with_reducible refine Below.alloc ?_ ?_ _) | (with_reducible refine Below.drew ?_) | (with_reducible refine Below.setCell ?_ ?_ _) | (with_reducible exact Nat.le_refl _) | omega | (simp; done) | (simp [go_sem]; done) | (simp at *; omega))
  · obtain ⟨s1, s2⟩ := look_seen h hw
    obtain ⟨⟨a1, a2⟩, a3, a4⟩ := vwinB_out h.f
    obtain ⟨⟨b1, b2⟩, b3, b4⟩ := vwinB_out hw
    rw [show vwinB ⟨p.x, p.y⟩ 33554432 = true from hw] at ca
    have hs := h.s
    unfold LookR.val
    clear hw h
    generalize k.tick = k1 at *
    generalize k.frm.x = k2 at *
    generalize k.frm.y = k3 at *
    generalize p.x = x at *
    generalize p.y = y at *
    generalize k.says = g at *
    cases g with
    | angle c =>
      have cx := fun W => angleAgrees_any c (x - k2) (y - k3) W hs s1 s2
      unfold ConeR.val at cx
      simp only [WordR.val, WordR.agrees]
      clear hs s1 s2
      generalize hasB c (x - k2) (y - k3) = t1 at *
      generalize c.dx = d1 at *
      generalize c.dy = d2 at *
      generalize c.lo = d3 at *
      generalize c.hi = d4 at *
      go_enter Try.func47, Try.ntmps47
      go_wp2_with (first | ((first | with_reducible refine wp_region_ext2 (by kernel_rfl) (by kernel_rfl) ?_ | with_reducible refine wp_region_ext (by kernel_rfl) (by kernel_rfl) ?_); (repeat (first | go_big_quiet_step ((first | (go_at_call 64; with_reducible exact Calls.ext (ca _)) | (go_at_call 100; with_reducible exact Calls.ext (cx _)))) | quiet_step ((first | (go_at_call 64; with_reducible exact Calls.ext (ca _)) | (go_at_call 100; with_reducible exact Calls.ext (cx _)))))); refine wpQuiet_nil ?_; rintro _ ⟨yr, rfl⟩; have syr := Ext.size yr; (repeat (first | rw [World.size_alloc] at syr | rw [World.size_setCell] at syr | rw [World.size_drew] at syr))) | (go_at_call 64; (first | with_reducible refine (Calls.giv2 (ca _)).mono ?_ | with_reducible refine (Calls.giv (ca _)).mono ?_); rintro _ _ ⟨y1, rfl, rfl⟩; have sy1 := Ext.size y1; (repeat (first | rw [World.size_alloc] at sy1 | rw [World.size_setCell] at sy1 | rw [World.size_drew] at sy1))) | (go_at_call 100; (first | with_reducible refine (Calls.giv2 (cx _)).mono ?_ | with_reducible refine (Calls.giv (cx _)).mono ?_); rintro _ _ ⟨y2, rfl, rfl⟩; have sy2 := Ext.size y2; (repeat (first | rw [World.size_alloc] at sy2 | rw [World.size_setCell] at sy2 | rw [World.size_drew] at sy2))))
      go_returns
      refine ⟨rfl, ?_⟩
      repeat' (first | (with_reducible exact Below.refl _ _) | (with_reducible assumption) | (with_reducible refine Ext.below _ ?_ ?_) | (with_reducible refine Below.on ?_ (by with_reducible assumption) ?_) | (with_reducible refine Below.alloc ?_ ?_ _) | (with_reducible refine Below.drew ?_) | (with_reducible refine Below.setCell ?_ ?_ _) | (with_reducible exact Nat.le_refl _) | omega | (simp; done) | (simp [go_sem]; done) | (simp at *; omega))
    | ring lo hi =>
      have cx := fun W => ringAgrees_any lo hi (x - k2) (y - k3) W hs.1 hs.2 s1 s2
      simp only [WordR.val, WordR.agrees]
      clear hs s1 s2
      generalize ringB lo hi (x - k2) (y - k3) = t1 at *
      go_enter Try.func47, Try.ntmps47
      go_wp2_with (first | ((first | with_reducible refine wp_region_ext2 (by kernel_rfl) (by kernel_rfl) ?_ | with_reducible refine wp_region_ext (by kernel_rfl) (by kernel_rfl) ?_); (repeat (first | go_big_quiet_step ((first | (go_at_call 64; with_reducible exact Calls.ext (ca _)) | (go_at_call 97; with_reducible exact Calls.ext (cx _)))) | quiet_step ((first | (go_at_call 64; with_reducible exact Calls.ext (ca _)) | (go_at_call 97; with_reducible exact Calls.ext (cx _)))))); refine wpQuiet_nil ?_; rintro _ ⟨yr, rfl⟩; have syr := Ext.size yr; (repeat (first | rw [World.size_alloc] at syr | rw [World.size_setCell] at syr | rw [World.size_drew] at syr))) | (go_at_call 64; (first | with_reducible refine (Calls.giv2 (ca _)).mono ?_ | with_reducible refine (Calls.giv (ca _)).mono ?_); rintro _ _ ⟨y1, rfl, rfl⟩; have sy1 := Ext.size y1; (repeat (first | rw [World.size_alloc] at sy1 | rw [World.size_setCell] at sy1 | rw [World.size_drew] at sy1))) | (go_at_call 97; (first | with_reducible refine (Calls.giv2 (cx _)).mono ?_ | with_reducible refine (Calls.giv (cx _)).mono ?_); rintro _ _ ⟨y2, rfl, rfl⟩; have sy2 := Ext.size y2; (repeat (first | rw [World.size_alloc] at sy2 | rw [World.size_setCell] at sy2 | rw [World.size_drew] at sy2))))
      go_returns
      refine ⟨rfl, ?_⟩
      repeat' (first | (with_reducible exact Below.refl _ _) | (with_reducible assumption) | (with_reducible refine Ext.below _ ?_ ?_) | (with_reducible refine Below.on ?_ (by with_reducible assumption) ?_) | (with_reducible refine Below.alloc ?_ ?_ _) | (with_reducible refine Below.drew ?_) | (with_reducible refine Below.setCell ?_ ?_ _) | (with_reducible exact Nat.le_refl _) | omega | (simp; done) | (simp [go_sem]; done) | (simp at *; omega))
    | empty c hi =>
      have cx := fun W => emptyAgrees_any c hi (x - k2) (y - k3) W hs.1 hs.2 s1 s2
      simp only [WordR.val, WordR.agrees]
      clear hs s1 s2
      generalize (!blocksB c hi (x - k2) (y - k3)) = t1 at *
      generalize c.dx = d1 at *
      generalize c.dy = d2 at *
      generalize c.lo = d3 at *
      generalize c.hi = d4 at *
      go_enter Try.func47, Try.ntmps47
      go_wp2_with (first | ((first | with_reducible refine wp_region_ext2 (by kernel_rfl) (by kernel_rfl) ?_ | with_reducible refine wp_region_ext (by kernel_rfl) (by kernel_rfl) ?_); (repeat (first | go_big_quiet_step ((first | (go_at_call 64; with_reducible exact Calls.ext (ca _)) | (go_at_call 105; with_reducible exact Calls.ext (cx _)))) | quiet_step ((first | (go_at_call 64; with_reducible exact Calls.ext (ca _)) | (go_at_call 105; with_reducible exact Calls.ext (cx _)))))); refine wpQuiet_nil ?_; rintro _ ⟨yr, rfl⟩; have syr := Ext.size yr; (repeat (first | rw [World.size_alloc] at syr | rw [World.size_setCell] at syr | rw [World.size_drew] at syr))) | (go_at_call 64; (first | with_reducible refine (Calls.giv2 (ca _)).mono ?_ | with_reducible refine (Calls.giv (ca _)).mono ?_); rintro _ _ ⟨y1, rfl, rfl⟩; have sy1 := Ext.size y1; (repeat (first | rw [World.size_alloc] at sy1 | rw [World.size_setCell] at sy1 | rw [World.size_drew] at sy1))) | (go_at_call 105; (first | with_reducible refine (Calls.giv2 (cx _)).mono ?_ | with_reducible refine (Calls.giv (cx _)).mono ?_); rintro _ _ ⟨y2, rfl, rfl⟩; have sy2 := Ext.size y2; (repeat (first | rw [World.size_alloc] at sy2 | rw [World.size_setCell] at sy2 | rw [World.size_drew] at sy2))))
      go_returns
      refine ⟨rfl, ?_⟩
      repeat' (first | (with_reducible exact Below.refl _ _) | (with_reducible assumption) | (with_reducible refine Ext.below _ ?_ ?_) | (with_reducible refine Below.on ?_ (by with_reducible assumption) ?_) | (with_reducible refine Below.alloc ?_ ?_ _) | (with_reducible refine Below.drew ?_) | (with_reducible refine Below.setCell ?_ ?_ _) | (with_reducible exact Nat.le_refl _) | omega | (simp; done) | (simp [go_sem]; done) | (simp at *; omega))
end Go.Proofs.Ytgoilmiiegpnoaa

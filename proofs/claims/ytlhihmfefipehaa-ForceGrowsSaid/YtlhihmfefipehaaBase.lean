/- Contracts of the wide numbers of package span, and of the two words that the library adds and takes away. No condition. -/
import Derived.Test.YtlhihmfefipehaaRows
import Derived.Test.YtlhihmfefipehaaShelf
import Derived.WalkKit
import Derived.WalkSpells
import Derived.StillTactics
import Derived.Laws.Pointers
import Derived.Laws.Externs
import Derived.Deep.RegionHeld3
import Derived.Deep.RegionWith
import Derived.Deep.QuietTactic
import Derived.BigQuiet
import Derived.RowKit3
import Derived.Handy
import Derived.IntWalk
import Derived.Outline
import Derived.Lib.Hide
import Derived.Below
import Derived.Shelf.Abstract
namespace Go.Proofs.Ytlhihmfefipehaa
open Go.RowKit Go.Shelf

/-- What a call gives back, and that nothing that was there has turned. -/
def Gives (v : Value) (w : World) : Ending → World → Prop := fun e w' => e = .returned v ∧ Below w.heap.size w w'

theorem Below.on {B : Nat} {w W W1 : World} (h1 : Below B w W) (h : Below W.heap.size W W1) (hB : B ≤ W.heap.size) : Below B w W1 := h1.trans (h.mono hB)
/-- A world in which nothing that was there in w has turned. -/
structure Ext (w : World) where
  now : World
  grew : Below w.heap.size w now
instance Ext.some (w : World) : Nonempty (Ext w) := ⟨⟨w, Below.refl _ _⟩⟩
theorem Ext.cell {w : World} (x : Ext w) {b o : Nat} (h : b < w.heap.size) : x.now.cell? ⟨b, o, none⟩ = w.cell? ⟨b, o, none⟩ := x.grew.cell (p := ⟨b, o, none⟩) h
theorem Ext.frozen {w : World} (x : Ext w) {b o : Nat} (h : b < w.heap.size) : x.now.frozen? ⟨b, o, none⟩ = w.frozen? ⟨b, o, none⟩ := x.grew.frozen (p := ⟨b, o, none⟩) h
theorem Ext.size {w : World} (x : Ext w) : w.heap.size ≤ x.now.heap.size := x.grew.size
theorem Ext.below {B : Nat} {w w0 : World} (x : Ext w) (h : Below B w0 w) (hB : B ≤ w.heap.size) : Below B w0 x.now := h.trans (x.grew.mono hB)
theorem Ext.lt {w : World} (x : Ext w) {n : Nat} (h : n < w.heap.size) : n < x.now.heap.size := Nat.lt_of_lt_of_le h x.size
theorem Ext.le {w : World} (x : Ext w) {n : Nat} (h : n ≤ w.heap.size) : n ≤ x.now.heap.size := Nat.le_trans h x.size
theorem Ext.lt_add {w : World} (x : Ext w) {n k : Nat} (h : n < w.heap.size + k) : n < x.now.heap.size + k := by have := x.size; omega
theorem Ext.le_add {w : World} (x : Ext w) {n k : Nat} (h : n ≤ w.heap.size + k) : n ≤ x.now.heap.size + k := by have := x.size; omega
theorem Ext.ne {w : World} (x : Ext w) {n : Nat} (h : n < w.heap.size) : (n = x.now.heap.size) = False := by have := x.size; simp; omega
theorem Ext.ne' {w : World} (x : Ext w) {n : Nat} (h : n < w.heap.size) : (x.now.heap.size = n) = False := by have := x.size; simp; omega
theorem lt2 (n : Nat) : n < n + 1 + 1 := by omega
theorem lt3 (n : Nat) : n < n + 1 + 1 + 1 := by omega
theorem lt4 (n : Nat) : n < n + 1 + 1 + 1 + 1 := by omega
theorem lt5 (n : Nat) : n < n + 1 + 1 + 1 + 1 + 1 := by omega
theorem le2 (n : Nat) : n ≤ n + 1 + 1 := by omega
theorem le3 (n : Nat) : n ≤ n + 1 + 1 + 1 := by omega
theorem le4 (n : Nat) : n ≤ n + 1 + 1 + 1 + 1 := by omega
theorem Ext.flat {w : World} {y : Ext w} (x : Ext y.now) : ∃ z : Ext w, x.now = z.now := ⟨⟨x.now, y.grew.trans (x.grew.mono y.size)⟩, rfl⟩
attribute [local go_sem] Ext.cell Ext.frozen Ext.lt Ext.le Ext.lt_add Ext.le_add Ext.ne Ext.ne' lt2 lt3 lt4 lt5 le2 le3 le4
theorem wp_region_ext {P : Program} {id : Nat} {Q : Exit → Act → World → Prop} {a : Act} {w : World} {l : List Oper} (hm : P.follows .mixedOrders = true) (hB : Region.lexB .any l.toArray = true)
    (h : wpQuiet P l.toArray (fun W => ∃ x : Ext w, W = x.now) (fun a' => ∀ W, (∃ x : Ext w, W = x.now) → Q .normal a' W) l a) : (Code.region id l.toArray true).wp P Q a w :=
  wp_region_quiet (C := fun W => ∃ x : Ext w, W = x.now) hm hB ⟨⟨w.drew, (Below.refl _ _).drew⟩, rfl⟩ (by simpa using h)
theorem Calls.ext {P : Program} {f : FuncId} {args : Array Value} {w0 : World} {x : Ext w0} {v : Value} (h : Calls P f args x.now (Gives v x.now)) : Calls P f args x.now fun e w'' => e = .returned v ∧ ∃ y : Ext w0, w'' = y.now :=
  h.mono fun _ _ ⟨he, hb⟩ => ⟨he, ⟨_, x.grew.trans (hb.mono x.size)⟩, rfl⟩
theorem Calls.ext_same {P : Program} {f : FuncId} {args : Array Value} {w0 : World} {x : Ext w0} {v : Value} (h : Calls P f args x.now fun e w' => e = .returned v ∧ x.now = w') : Calls P f args x.now fun e w'' => e = .returned v ∧ ∃ y : Ext w0, w'' = y.now :=
  h.mono fun _ _ ⟨he, hb⟩ => ⟨he, x, hb.symm⟩
theorem Calls.giv {P : Program} {f : FuncId} {args : Array Value} {w : World} {v : Value} (h : Calls P f args w (Gives v w)) : Calls P f args w fun e w' => ∃ x : Ext w, e = .returned v ∧ w' = x.now :=
  h.mono fun _ _ ⟨he, hb⟩ => ⟨⟨_, hb⟩, he, rfl⟩
theorem Calls.giv2 {P : Program} {f : FuncId} {args : Array Value} {w0 : World} {y : Ext w0} {v : Value} (h : Calls P f args y.now (Gives v y.now)) : Calls P f args y.now fun e w' => ∃ x : Ext w0, e = .returned v ∧ w' = x.now :=
  h.mono fun _ _ ⟨he, hb⟩ => ⟨⟨_, y.grew.trans (hb.mono y.size)⟩, he, rfl⟩
theorem bcl {n : Nat} {w W : World} (h : Below n w W := by repeat' (first | (with_reducible exact Below.refl _ _) | (with_reducible assumption) | (with_reducible refine Ext.below _ ?_ ?_) | (with_reducible refine Below.on ?_ (by with_reducible assumption) ?_) | (with_reducible refine Below.alloc ?_ ?_ _) | (with_reducible refine Below.drew ?_) | (with_reducible refine Below.setCell ?_ ?_ _) | (with_reducible exact Nat.le_refl _) | omega | (simp; done) | (simp [go_sem]; done) | (simp at *; omega))) : Below n w W := h
theorem wp_region_ext2 {P : Program} {id : Nat} {Q : Exit → Act → World → Prop} {a : Act} {w : World} {y : Ext w} {l : List Oper} (hm : P.follows .mixedOrders = true) (hB : Region.lexB .any l.toArray = true)
    (h : wpQuiet P l.toArray (fun W => ∃ x : Ext w, W = x.now) (fun a' => ∀ W, (∃ x : Ext w, W = x.now) → Q .normal a' W) l a) : (Code.region id l.toArray true).wp P Q a y.now :=
  wp_region_quiet (C := fun W => ∃ x : Ext w, W = x.now) hm hB ⟨⟨y.now.drew, y.grew.drew⟩, rfl⟩ (by simpa using h)
theorem wrx {P : Program} {id : Nat} {Q : Exit → Act → World → Prop} {a : Act} {w : World} {l : List Oper} (h : wpQuiet P l.toArray (fun W => ∃ x : Ext w, W = x.now) (fun a' => ∀ W, (∃ x : Ext w, W = x.now) → Q .normal a' W) l a) (hm : P.follows .mixedOrders = true := by kernel_rfl) (hB : Region.lexB .any l.toArray = true := by kernel_rfl) : (Code.region id l.toArray true).wp P Q a w := wp_region_ext hm hB h
theorem wrx2 {P : Program} {id : Nat} {Q : Exit → Act → World → Prop} {a : Act} {w : World} {y : Ext w} {l : List Oper} (h : wpQuiet P l.toArray (fun W => ∃ x : Ext w, W = x.now) (fun a' => ∀ W, (∃ x : Ext w, W = x.now) → Q .normal a' W) l a) (hm : P.follows .mixedOrders = true := by kernel_rfl) (hB : Region.lexB .any l.toArray = true := by kernel_rfl) : (Code.region id l.toArray true).wp P Q a y.now := wp_region_ext2 hm hB h
theorem Gives.of_same {P : Program} {f : FuncId} {args : Array Value} {w : World} {v : Value} (h : Calls P f args w fun e w' => e = .returned v ∧ w = w') : Calls P f args w (Gives v w) :=
  h.mono fun _ _ ⟨he, hb⟩ => ⟨he, hb ▸ Below.refl _ w⟩
theorem ret_bool {a b : Bool} (h : a = b) : Ending.returned (.bool a) = .returned (.bool b) := by rw [h]
theorem ret_int {k : IntKind} {a b : Int} (h : a = b) : Ending.returned (.int k a) = .returned (.int k b) := by rw [h]
def I64 (n : Int) : Prop := -9223372036854775808 ≤ n ∧ n < 9223372036854775808
/-- The high and the low word of a whole number. -/
def whi (n : Int) : Int := n / 18446744073709551616
def wlo (n : Int) : Int := n % 18446744073709551616

theorem mul64 (x y : Int) (hx : 0 ≤ x) (hx' : x < 18446744073709551616) (hy : 0 ≤ y) (hy' : y < 18446744073709551616) (w : World) :
    Calls Try.prog 115 #[.int .u64 x, .int .u64 y] w fun e w' => e = .returned (.tuple #[.int .u64 (x * y / 18446744073709551616), .int .u64 (x * y % 18446744073709551616)]) ∧ w = w' := by
  obtain ⟨x, rfl⟩ := Int.eq_ofNat_of_zero_le hx
  obtain ⟨y, rfl⟩ := Int.eq_ofNat_of_zero_le hy
  refine (Try.bits_Mul64 x y (by omega) (by omega) w).mono ?_
  rintro e w' ⟨rfl, rfl⟩
  refine ⟨?_, rfl⟩
  congr 4
theorem prod_bounds {a b : Int} (ha : I64 a) (hb : I64 b) : -85070591730234615865843651857942052864 ≤ a * b ∧ a * b ≤ 85070591730234615865843651857942052864 := by
  unfold I64 at *
  obtain ⟨ha1, ha2⟩ := ha; obtain ⟨hb1, hb2⟩ := hb
  have h1 := Int.mul_nonneg (show (0:Int) ≤ 9223372036854775808 - a by omega) (show (0:Int) ≤ 9223372036854775808 - b by omega)
  have h2 := Int.mul_nonneg (show (0:Int) ≤ a + 9223372036854775808 by omega) (show (0:Int) ≤ b + 9223372036854775808 by omega)
  have h3 := Int.mul_nonneg (show (0:Int) ≤ 9223372036854775808 - a by omega) (show (0:Int) ≤ b + 9223372036854775808 by omega)
  have h4 := Int.mul_nonneg (show (0:Int) ≤ a + 9223372036854775808 by omega) (show (0:Int) ≤ 9223372036854775808 - b by omega)
  simp only [Int.sub_mul, Int.mul_sub, Int.add_mul, Int.mul_add] at h1 h2 h3 h4
  constructor <;> omega

theorem wr1 (x y : Int) (h : x % 18446744073709551616 = y % 18446744073709551616) (h1 : -9223372036854775808 ≤ y) (h2 : y < 9223372036854775808) : wrap64 (IntKind.u64.wrap x) = y := by go_arith
theorem wr2 (x z y : Int) (h : (x - z) % 18446744073709551616 = y % 18446744073709551616) (h1 : -9223372036854775808 ≤ y) (h2 : y < 9223372036854775808) : wrap64 (IntKind.u64.wrap (IntKind.u64.wrap x - z)) = y := by go_arith
theorem div_pp (a b : Int) : (a + 18446744073709551616) * (b + 18446744073709551616) / 18446744073709551616 = a * b / 18446744073709551616 + a + b + 18446744073709551616 := by
  rw [show (a + 18446744073709551616) * (b + 18446744073709551616) = a * b + (a + b + 18446744073709551616) * 18446744073709551616 by simp only [Int.add_mul, Int.mul_add]; omega]
  omega
theorem div_p0 (a b : Int) : (a + 18446744073709551616) * b / 18446744073709551616 = a * b / 18446744073709551616 + b := by
  rw [show (a + 18446744073709551616) * b = a * b + b * 18446744073709551616 by simp only [Int.add_mul]; omega]
  omega
theorem div_0p (a b : Int) : a * (b + 18446744073709551616) / 18446744073709551616 = a * b / 18446744073709551616 + a := by
  rw [Int.mul_comm, div_p0, Int.mul_comm]
theorem mod_pp (a b : Int) : (a + 18446744073709551616) * (b + 18446744073709551616) % 18446744073709551616 = a * b % 18446744073709551616 := by
  rw [show (a + 18446744073709551616) * (b + 18446744073709551616) = a * b + (a + b + 18446744073709551616) * 18446744073709551616 by simp only [Int.add_mul, Int.mul_add]; omega]
  omega
theorem mod_p0 (a b : Int) : (a + 18446744073709551616) * b % 18446744073709551616 = a * b % 18446744073709551616 := by
  rw [show (a + 18446744073709551616) * b = a * b + b * 18446744073709551616 by simp only [Int.add_mul]; omega]
  omega
theorem mod_0p (a b : Int) : a * (b + 18446744073709551616) % 18446744073709551616 = a * b % 18446744073709551616 := by
  rw [Int.mul_comm, mod_p0, Int.mul_comm]
theorem product_any (a b : Int) (w : World) (ha : I64 a) (hb : I64 b) :
    Calls Try.prog 108 #[.int .i64 a, .int .i64 b] w (Gives (.agg #[.int .i64 (whi (a * b)), .int .u64 (wlo (a * b))]) w) := by
  have hp := prod_bounds ha hb
  have Hp := Go.Lib.hid hp; clear hp
  unfold I64 at ha hb
  obtain ⟨ha, ha'⟩ := ha; obtain ⟨hb, hb'⟩ := hb
  by_cases h1 : 0 ≤ a <;> by_cases h2 : 0 ≤ b
  · have e : IntKind.u64.wrap b = b := by go_arith
    have e' : IntKind.u64.wrap a = a := by go_arith
    go_enter Try.func108, Try.ntmps108
    go_wp2_with (go_at_call 115; refine (mul64 _ _ (by omega) (by omega) (by omega) (by omega) _).mono ?_; rintro e w' ⟨rfl, rfl⟩)
    go_returns
    have hp := Hp.out
    refine ⟨?_, by go_grown⟩
    unfold whi wlo
    rw [IntWalk.wrap64_in _ (by omega)]
  · have e : IntKind.u64.wrap b = b + 18446744073709551616 := by go_arith
    have e' : IntKind.u64.wrap a = a := by go_arith
    go_enter Try.func108, Try.ntmps108
    go_wp2_with (go_at_call 115; refine (mul64 _ _ (by first | omega | (rw [e]; omega)) (by first | omega | (rw [e]; omega)) (by first | omega | (rw [e]; omega)) (by first | omega | (rw [e]; omega)) _).mono ?_; rintro e w' ⟨rfl, rfl⟩)
    go_returns
    have hp := Hp.out
    refine ⟨?_, by go_grown⟩
    unfold whi wlo
    rw [div_0p, mod_0p, wr1 _ (a * b / 18446744073709551616) (by omega) (by omega) (by omega)]
  · have e : IntKind.u64.wrap b = b := by go_arith
    have e' : IntKind.u64.wrap a = a + 18446744073709551616 := by go_arith
    go_enter Try.func108, Try.ntmps108
    go_wp2_with (go_at_call 115; refine (mul64 _ _ (by first | omega | (rw [e']; omega)) (by first | omega | (rw [e']; omega)) (by first | omega | (rw [e']; omega)) (by first | omega | (rw [e']; omega)) _).mono ?_; rintro e w' ⟨rfl, rfl⟩)
    go_returns
    have hp := Hp.out
    refine ⟨?_, by go_grown⟩
    unfold whi wlo
    rw [div_p0, mod_p0, wr1 _ (a * b / 18446744073709551616) (by omega) (by omega) (by omega)]
  · have e : IntKind.u64.wrap b = b + 18446744073709551616 := by go_arith
    have e' : IntKind.u64.wrap a = a + 18446744073709551616 := by go_arith
    go_enter Try.func108, Try.ntmps108
    go_wp2_with (go_at_call 115; refine (mul64 _ _ (by first | omega | (rw [e']; omega)) (by first | omega | (rw [e']; omega)) (by first | omega | (rw [e]; omega)) (by first | omega | (rw [e]; omega)) _).mono ?_; rintro e w' ⟨rfl, rfl⟩)
    go_returns
    have hp := Hp.out
    refine ⟨?_, by go_grown⟩
    unfold whi wlo
    rw [div_pp, mod_pp, wr2 _ _ (a * b / 18446744073709551616) (by omega) (by omega) (by omega)]
def cmpw (h l h' l' : Int) : Int := if h < h' then -1 else if h' < h then 1 else if l < l' then -1 else if l' < l then 1 else 0
theorem compare_any (h l h' l' : Int) (w : World) :
    Calls Try.prog 101 #[.agg #[.int .i64 h, .int .u64 l], .agg #[.int .i64 h', .int .u64 l']] w (Gives (.int .i64 (cmpw h l h' l')) w) := by
  by_cases h1 : h < h'
  · have r : cmpw h l h' l' = -1 := by unfold cmpw; simp [h1]
    rw [r]; clear r
    go_enter Try.func101, Try.ntmps101
    go_wp2_with fail
    go_returns
    exact ⟨rfl, by go_grown⟩
  by_cases h2 : h' < h
  · have r : cmpw h l h' l' = 1 := by unfold cmpw; simp [h1, h2]
    rw [r]; clear r
    have e1 : (h == h') = false := by simp; omega
    go_enter Try.func101, Try.ntmps101
    go_wp2_with fail
    go_returns
    exact ⟨rfl, by go_grown⟩
  obtain rfl : h = h' := by omega
  clear h1 h2
  by_cases h1 : l < l'
  · have r : cmpw h l h l' = -1 := by unfold cmpw; simp [h1]
    rw [r]; clear r
    go_enter Try.func101, Try.ntmps101
    go_wp2_with fail
    go_returns
    exact ⟨rfl, by go_grown⟩
  by_cases h2 : l' < l
  · have r : cmpw h l h l' = 1 := by unfold cmpw; simp [h1, h2]
    rw [r]; clear r
    go_enter Try.func101, Try.ntmps101
    go_wp2_with fail
    go_returns
    exact ⟨rfl, by go_grown⟩
  obtain rfl : l = l' := by omega
  have r : cmpw h l h l = 0 := by unfold cmpw; simp
  rw [r]; clear r
  go_enter Try.func101, Try.ntmps101
  go_wp2_with fail
  go_returns
  exact ⟨rfl, by go_grown⟩
theorem cmpw_at (m n : Int) : cmpw (m / 18446744073709551616) (m % 18446744073709551616) (n / 18446744073709551616) (n % 18446744073709551616) = if m < n then -1 else if n < m then 1 else 0 := by
  unfold cmpw
  repeat' split
  all_goals first | rfl | omega

theorem add64_run (x y c : Int) (hx : 0 ≤ x) (hy : 0 ≤ y) (hc : 0 ≤ c) (hc' : c ≤ 1) (w : World) : (callFunc 113 #[.int .u64 x, .int .u64 y, .int .u64 c]).run Try.prog w =
    .ok (.value (.tuple #[.int .u64 ((x + y + c) % 18446744073709551616), .int .u64 ((x + y + c) / 18446744073709551616)])) w := by
  obtain ⟨x, rfl⟩ := Int.eq_ofNat_of_zero_le hx
  obtain ⟨y, rfl⟩ := Int.eq_ofNat_of_zero_le hy
  obtain ⟨c, rfl⟩ := Int.eq_ofNat_of_zero_le hc
  rw [run_callFunc_extern Try.func113 (by kernel_rfl) (by kernel_rfl) (by kernel_rfl) (e := (Go.Extern.MathBitsCarry.rows.getD 0 ("", fun _ => pure .nilIface)).2) (by kernel_rfl)]
  have e : (((Go.Extern.MathBitsCarry.rows.getD 0 ("", fun _ => pure .nilIface)).2 #[.int .u64 x, .int .u64 y, .int .u64 c]).run Try.prog w) = .ok (.tuple #[.int .u64 (((x + y + c) % 18446744073709551616 : Nat) : Int), .int .u64 (((x + y + c) / 18446744073709551616 : Nat) : Int)]) w := by
    rcases (show c = 0 ∨ c = 1 by omega) with rfl | rfl <;> rfl
  rw [e]
  simp only [Result.andThen]
  congr 5
theorem sub64_run (x y b : Int) (hx : 0 ≤ x) (hy : 0 ≤ y) (hy' : y < 18446744073709551616) (hb0 : 0 ≤ b) (hb : b ≤ 1) (w : World) : (callFunc 114 #[.int .u64 x, .int .u64 y, .int .u64 b]).run Try.prog w =
    .ok (.value (.tuple #[.int .u64 ((x - y - b) % 18446744073709551616), .int .u64 (if x < y + b then 1 else 0)])) w := by
  obtain ⟨x, rfl⟩ := Int.eq_ofNat_of_zero_le hx
  obtain ⟨y, rfl⟩ := Int.eq_ofNat_of_zero_le hy
  obtain ⟨b, rfl⟩ := Int.eq_ofNat_of_zero_le hb0
  rw [run_callFunc_extern Try.func114 (by kernel_rfl) (by kernel_rfl) (by kernel_rfl) (e := (Go.Extern.MathBitsCarry.rows.getD 1 ("", fun _ => pure .nilIface)).2) (by kernel_rfl)]
  have e : (((Go.Extern.MathBitsCarry.rows.getD 1 ("", fun _ => pure .nilIface)).2 #[.int .u64 x, .int .u64 y, .int .u64 b]).run Try.prog w) = .ok (.tuple #[.int .u64 (((x + 18446744073709551616 - y - b) % 18446744073709551616 : Nat) : Int), .int .u64 ((if x < y + b then 1 else 0 : Nat) : Int)]) w := by
    rcases (show b = 0 ∨ b = 1 by omega) with rfl | rfl <;> rfl
  rw [e]
  simp only [Result.andThen]
  have e1 : (((x + 18446744073709551616 - y - b) % 18446744073709551616 : Nat) : Int) = ((x : Int) - y - b) % 18446744073709551616 := by omega
  have e2 : ((if x < y + b then 1 else 0 : Nat) : Int) = if (x : Int) < y + b then 1 else 0 := by split <;> split <;> omega
  rw [e1, e2]
theorem add64_run0 (x y : Int) (hx : 0 ≤ x) (hy : 0 ≤ y) (w : World) : (callFunc 113 #[.int .u64 x, .int .u64 y, .int .u64 0]).run Try.prog w =
    .ok (.value (.tuple #[.int .u64 ((x + y) % 18446744073709551616), .int .u64 ((x + y) / 18446744073709551616)])) w := by
  simpa using add64_run x y 0 hx hy (Int.le_refl 0) (by decide) w
theorem u64_named (h : Int) : ∃ u, IntKind.u64.wrap h = u ∧ 0 ≤ u ∧ u < 18446744073709551616 ∧ u % 18446744073709551616 = h % 18446744073709551616 := ⟨_, rfl, by go_arith, by go_arith, by go_arith⟩
theorem back64 (x y : Int) (h : x % 18446744073709551616 = y % 18446744073709551616) (h1 : -9223372036854775808 ≤ y) (h2 : y < 9223372036854775808) : wrap64 x = y := by go_arith

theorem plus_any (m n : Int) (w : World) (h3 : I64 (whi (m + n))) :
    Calls Try.prog 105 #[.agg #[.int .i64 (whi m), .int .u64 (wlo m)], .agg #[.int .i64 (whi n), .int .u64 (wlo n)]] w (Gives (.agg #[.int .i64 (whi (m + n)), .int .u64 (wlo (m + n))]) w) := by
  unfold whi wlo I64 at *
  obtain ⟨uh, e1, b1, b2, b3⟩ := u64_named (m / 18446744073709551616)
  obtain ⟨uh', e2, c1, c2, c3⟩ := u64_named (n / 18446744073709551616)
  generalize hp : m / 18446744073709551616 = p at *
  generalize hq : n / 18446744073709551616 = q at *
  generalize hr : (m + n) / 18446744073709551616 = r at *
  generalize hl : m % 18446744073709551616 = l at *
  generalize hl' : n % 18446744073709551616 = l' at *
  generalize hs : (m + n) % 18446744073709551616 = s at *
  have d1 : 0 ≤ l := by omega
  have d2 : 0 ≤ l' := by omega
  have k0 : 0 ≤ (l + l') / 18446744073709551616 := by omega
  have k1 : (l + l') / 18446744073709551616 ≤ 1 := by omega
  have hfin : wrap64 ((uh + uh' + (l + l') / 18446744073709551616) % 18446744073709551616) = r := back64 _ _ (by omega) (by omega) (by omega)
  have hfin2 : (l + l') % 18446744073709551616 = s := by omega
  have H := Go.Lib.hid (And.intro hfin hfin2)
  clear hfin hfin2 hp hq hr hl hl' hs b3 c3 h3
  go_enter Try.func105, Try.ntmps105
  go_wp2_with (first | simp only [add64_run0 l l' d1 d2] | simp only [add64_run uh uh' _ b1 c1 k0 k1])
  go_returns
  exact ⟨by rw [H.out.1, H.out.2], by go_grown⟩
def bor (x y : Int) : Int := if x < y then 1 else 0
theorem bor_01 (x y : Int) : 0 ≤ bor x y ∧ bor x y ≤ 1 := by unfold bor; split <;> omega
theorem sub64_named (x y b : Int) (hx : 0 ≤ x) (hy : 0 ≤ y) (hy' : y < 18446744073709551616) (hb0 : 0 ≤ b) (hb : b ≤ 1) (w : World) : (callFunc 114 #[.int .u64 x, .int .u64 y, .int .u64 b]).run Try.prog w =
    .ok (.value (.tuple #[.int .u64 ((x - y - b) % 18446744073709551616), .int .u64 (bor x (y + b))])) w := sub64_run x y b hx hy hy' hb0 hb w
theorem negative_any (n : Int) (w : World) (h3 : I64 (whi (-n))) :
    Calls Try.prog 106 #[.agg #[.int .i64 (whi n), .int .u64 (wlo n)]] w (Gives (.agg #[.int .i64 (whi (-n)), .int .u64 (wlo (-n))]) w) := by
  unfold whi wlo I64 at *
  obtain ⟨uh, e1, b1, b2, b3⟩ := u64_named (n / 18446744073709551616)
  generalize hp : n / 18446744073709551616 = p at *
  generalize hr : (-n) / 18446744073709551616 = r at *
  generalize hl : n % 18446744073709551616 = l at *
  generalize hs : (-n) % 18446744073709551616 = s at *
  have d1 : 0 ≤ l := by omega
  have d2 : l < 18446744073709551616 := by omega
  have f1 := fun w => sub64_named 0 l 0 (by omega) d1 d2 (by omega) (by omega) w
  have k := bor_01 0 (l + 0)
  have f2 := fun w => sub64_named 0 uh (bor 0 (l + 0)) (by omega) b1 b2 k.1 k.2 w
  have hb : bor 0 (l + 0) = if 0 < l then 1 else 0 := by unfold bor; simp
  generalize bor 0 (l + 0) = b at *
  have hfin : wrap64 ((-uh - b) % 18446744073709551616) = r := back64 _ _ (by split at hb <;> omega) (by omega) (by omega)
  have hfin2 : -l % 18446744073709551616 = s := by omega
  have H := Go.Lib.hid (And.intro hfin hfin2)
  have F1 := Go.Lib.hid f1
  have F2 := Go.Lib.hid f2
  clear f1 f2 k hb hfin hfin2 hp hr hl hs b3 h3
  go_enter Try.func106, Try.ntmps106
  go_wp2_with (first | rw [F1.out] | rw [F2.out])
  go_returns
  exact ⟨by rw [H.out.1, H.out.2], by go_grown⟩
theorem widen_any (n : Int) (w : World) (h : I64 n) : Calls Try.prog 104 #[.int .i64 n] w (Gives (.agg #[.int .i64 (whi n), .int .u64 (wlo n)]) w) := by
  unfold whi wlo I64 at *
  by_cases hn : 0 ≤ n
  · have H1 := Go.Lib.hid (show n / 9223372036854775808 = n / 18446744073709551616 by omega)
    have H2 := Go.Lib.hid (show n = n % 18446744073709551616 by omega)
    go_enter Try.func104, Try.ntmps104
    go_wp2_with fail
    go_returns
    exact ⟨by rw [← H2.out, H1.out], by go_grown⟩
  · have e : IntKind.u64.wrap n = n % 18446744073709551616 := by simp only [IntKind.wrap_u64]
    have H1 := Go.Lib.hid (show n / 9223372036854775808 = n / 18446744073709551616 by omega)
    go_enter Try.func104, Try.ntmps104
    go_wp2_with fail
    go_returns
    exact ⟨by rw [H1.out], by go_grown⟩
/-- From -MaxNum to MaxNum. -/
def numB (n : Int) : Bool := decide (-1152921504606846976 ≤ n ∧ n ≤ 1152921504606846976)
theorem numB_true {n : Int} : numB n = true ↔ -1152921504606846976 ≤ n ∧ n ≤ 1152921504606846976 := by unfold numB; simp
theorem numB_false {n : Int} : numB n = false ↔ ¬ (-1152921504606846976 ≤ n ∧ n ≤ 1152921504606846976) := by unfold numB; simp
theorem inNumbers_any (n : Int) (w : World) : Calls Try.prog 107 #[.int .i64 n] w (Gives (.bool (numB n)) w) := by
  by_cases h1 : -1152921504606846976 ≤ n <;> by_cases h2 : n ≤ 1152921504606846976
  all_goals
    go_enter Try.func107, Try.ntmps107
    go_wp2_with fail
    go_returns
    exact ⟨by simp [h1, h2, numB], Below.refl _ _⟩
end Go.Proofs.Ytlhihmfefipehaa

/- Contracts of the ring that hands out numbers. Condition: the ring's block is as NewRing made it, and its list lies before it. -/
import Derived.Test.YtlhihmfefipehaaKit
namespace Go.Proofs.Ytlhihmfefipehaa
open Go.RowKit Go.Shelf
attribute [local go_sem] Ext.cell Ext.frozen Ext.lt Ext.le Ext.lt_add Ext.le_add Ext.ne Ext.ne' lt2 lt3 lt4 lt5 le2 le3 le4
theorem Mod_any (n m : Int) (w : World) (hn : I64 n) (hm : 0 < m) (hm2 : m < 9223372036854775808) : Calls Try.prog 84 #[.int .i64 n, .int .i64 m] w (Gives (.int .i64 (n % m)) w) := by
  have hb := tmod_bounds n m hm
  obtain ⟨hb1, hb2⟩ := hb
  unfold I64 at hn
  obtain ⟨hn1, hn2⟩ := hn
  have h0 : (m == 0) = false := by simp; omega
  have hw : wrap64 (n.tmod m) = n.tmod m := IntWalk.wrap64_in _ (by omega)
  by_cases h : n.tmod m < 0
  · have hv : n % m = n.tmod m + m := by
      rcases Int.lt_or_le n 0 with h' | h'
      · exact (tmod_neg1 h' hm h).symm
      · have := tmod_pos (m := m) h'; have := Int.emod_nonneg n (b := m) (by omega); omega
    rw [hv]
    clear hv
    have hw2 : wrap64 (n.tmod m + m) = n.tmod m + m := IntWalk.wrap64_in _ (by omega)
    go_enter Try.func84, Try.ntmps84
    go_wp2_with (first | ((first | with_reducible refine wrx2 ?_ | with_reducible refine wrx ?_); (repeat (first | go_big_quiet_step ((first | fail)) | quiet_step ((first | fail)))); refine wpQuiet_nil ?_; rintro _ ⟨yr, rfl⟩; have syr := Ext.size yr; (repeat (first | rw [World.size_alloc] at syr | rw [World.size_setCell] at syr | rw [World.size_drew] at syr))))
    go_returns
    refine ⟨rfl, ?_⟩
    repeat' (first | (with_reducible exact Below.refl _ _) | (with_reducible assumption) | (with_reducible refine Ext.below _ ?_ ?_) | (with_reducible refine Below.on ?_ (by with_reducible assumption) ?_) | (with_reducible refine Below.alloc ?_ ?_ _) | (with_reducible refine Below.drew ?_) | (with_reducible refine Below.setCell ?_ ?_ _) | (with_reducible exact Nat.le_refl _) | omega | (simp; done) | (simp [go_sem]; done) | (simp at *; omega))
  · have hv : n % m = n.tmod m := by
      rcases Int.lt_or_le n 0 with h' | h'
      · exact (tmod_neg0 h' hm h).symm
      · exact (tmod_pos h').symm
    rw [hv]
    clear hv
    go_enter Try.func84, Try.ntmps84
    go_wp2_with (first | ((first | with_reducible refine wrx2 ?_ | with_reducible refine wrx ?_); (repeat (first | go_big_quiet_step ((first | fail)) | quiet_step ((first | fail)))); refine wpQuiet_nil ?_; rintro _ ⟨yr, rfl⟩; have syr := Ext.size yr; (repeat (first | rw [World.size_alloc] at syr | rw [World.size_setCell] at syr | rw [World.size_drew] at syr))))
    go_returns
    refine ⟨rfl, ?_⟩
    repeat' (first | (with_reducible exact Below.refl _ _) | (with_reducible assumption) | (with_reducible refine Ext.below _ ?_ ?_) | (with_reducible refine Below.on ?_ (by with_reducible assumption) ?_) | (with_reducible refine Below.alloc ?_ ?_ _) | (with_reducible refine Below.drew ?_) | (with_reducible refine Below.setCell ?_ ?_ _) | (with_reducible exact Nat.le_refl _) | omega | (simp; done) | (simp [go_sem]; done) | (simp at *; omega))
/-- What a ring of the numbers z 0 .. z (len - 1) hands out as its number k + 1, before it is taken modulo. -/
def ringX (z : Nat → Int) (len k : Nat) : Int := ((k : Int) + 1) * 7919 % 10007 + (if len = 0 then 0 else z ((k + 1) % len) % 1048576 / (1 + ((k : Int) + 1) / len))
theorem ringX_bounds (z : Nat → Int) (len k : Nat) : 0 ≤ ringX z len k ∧ ringX z len k ≤ 1058583 := by
  unfold ringX
  have h1 := Int.emod_nonneg (((k : Int) + 1) * 7919) (b := 10007) (by decide)
  have h2 := Int.emod_lt_of_pos (((k : Int) + 1) * 7919) (b := 10007) (by decide)
  split
  · omega
  · have h3 := Int.emod_nonneg (z ((k + 1) % len)) (b := 1048576) (by decide)
    have h4 := Int.emod_lt_of_pos (z ((k + 1) % len)) (b := 1048576) (by decide)
    have h5 : 0 ≤ ((k : Int) + 1) / len := Int.ediv_nonneg (by omega) (by omega)
    have h6 := Int.ediv_nonneg h3 (show 0 ≤ 1 + ((k : Int) + 1) / len by omega)
    have h7 : z ((k + 1) % len) % 1048576 / (1 + ((k : Int) + 1) / len) ≤ z ((k + 1) % len) % 1048576 := Int.ediv_le_self _ h3
    omega
/-- A ring in block b: its list (the slice s, the numbers z), and that k numbers were handed out. -/
structure RingAt (w : World) (b : Nat) (p : Option Addr) (len cap : Nat) (z : Nat → Int) (k : Nat) : Prop where
  list : w.cell? ⟨b, 0, none⟩ = some (.slice p len cap)
  count : w.cell? ⟨b, 1, none⟩ = some (.int .i64 (k : Int))
  free : w.frozen? ⟨b, 1, none⟩ = false
  long : len < 9223372036854775808
  some : len ≠ 0 → ∃ B o, p = some ⟨B, o, none⟩ ∧ B < b ∧ ∀ i, i < len → w.cell? ⟨B, o + i, none⟩ = some (.int .i64 (z i)) ∧ I64 (z i)
theorem RingAt.lt {w : World} {b : Nat} {p : Option Addr} {len cap : Nat} {z : Nat → Int} {k : Nat} (h : RingAt w b p len cap z k) : b < w.heap.size := World.block_lt_of_cell? w ⟨b, 1, none⟩ h.count
/-- After one more number. -/
theorem RingAt.next {w w' : World} {b : Nat} {p : Option Addr} {len cap : Nat} {z : Nat → Int} {k : Nat} (h : RingAt w b p len cap z k) (hb : Below w.heap.size (w.setCell ⟨b, 1, none⟩ (.int .i64 ((k : Int) + 1))) w') : RingAt w' b p len cap z (k + 1) := by
  have hl := h.lt
  have hsz : (w.setCell ⟨b, 1, none⟩ (.int .i64 ((k : Int) + 1))).heap.size = w.heap.size := by simp
  have cell : ∀ B o, B < w.heap.size → w'.cell? ⟨B, o, none⟩ = (w.setCell ⟨b, 1, none⟩ (.int .i64 ((k : Int) + 1))).cell? ⟨B, o, none⟩ := fun B o hB => hb.cell (p := ⟨B, o, none⟩) hB
  refine ⟨?_, ?_, ?_, h.long, fun h0 => ?_⟩
  · rw [cell b 0 hl]; have := h.list; simp [go_sem, this]
  · rw [cell b 1 hl]; have := h.count; simp [go_sem, this]
  · rw [hb.frozen (p := ⟨b, 1, none⟩) hl]; have := h.free; simp [go_sem, this]
  · obtain ⟨B, o, hp, hB, hc⟩ := h.some h0
    refine ⟨B, o, hp, hB, fun i hi => ⟨?_, (hc i hi).2⟩⟩
    rw [cell B (o + i) (by omega)]
    have := (hc i hi).1
    simp [go_sem, this]
set_option maxRecDepth 100000 in
set_option maxHeartbeats 2000000 in
theorem Next_any (n : Int) (b : Nat) (p : Option Addr) (len cap : Nat) (z : Nat → Int) (k : Nat) (w : World) (hr : RingAt w b p len cap z k) (hk : k < 1000000000) (hn : 0 < n) (hn2 : n < 9223372036854775808) :
    Calls Try.prog 59 #[.pointer (some ⟨b, 0, none⟩), .int .i64 n] w fun e w' => e = .returned (.int .i64 (ringX z len k % n)) ∧ Below w.heap.size (w.setCell ⟨b, 1, none⟩ (.int .i64 ((k : Int) + 1))) w' := by
  have hl := hr.lt
  obtain ⟨h1, h2, h3, h4, h5⟩ := hr
  have hb := ringX_bounds z len k
  by_cases h0 : len = 0
  · subst h0
    have hx : ringX z 0 k % n = (((k : Int) + 1) * 7919 % 10007) % n := by unfold ringX; simp
    rw [hx]
    clear hx h5 hb
    have m1 := Int.emod_nonneg (((k : Int) + 1) * 7919) (b := 10007) (by decide)
    have hn0 : (n == 0) = false := by simp; omega
    go_enter Try.func59, Try.ntmps59
    go_wp2_with (first | ((first | with_reducible refine wrx2 ?_ | with_reducible refine wrx ?_); (repeat (first | go_big_quiet_step ((first | fail)) | quiet_step ((first | fail)))); refine wpQuiet_nil ?_; rintro _ ⟨yr, rfl⟩; have syr := Ext.size yr; (repeat (first | rw [World.size_alloc] at syr | rw [World.size_setCell] at syr | rw [World.size_drew] at syr)); have : b < yr.now.heap.size := (by omega); have : b ≤ yr.now.heap.size := (by omega); have : b < yr.now.heap.size + 1 + 1 := (by omega)))
    go_returns
    refine ⟨rfl, ?_⟩
    repeat' (first | (with_reducible exact Below.refl _ _) | (with_reducible assumption) | (with_reducible refine Ext.below _ ?_ ?_) | (with_reducible refine Below.on ?_ (by with_reducible assumption) ?_) | (with_reducible refine Below.alloc ?_ ?_ _) | (with_reducible refine Below.drew ?_) | (with_reducible refine Below.setCell ?_ ?_ _) | (with_reducible exact Nat.le_refl _) | omega | (simp; done) | (simp [go_sem]; done) | (simp at *; omega))
  · obtain ⟨B, o, rfl, hB, hc⟩ := h5 h0
    have hlen : 0 < (len : Int) := by omega
    have hB2 : B < w.heap.size := by omega
    obtain ⟨j, hjn⟩ : ∃ j : Nat, (k + 1) % len = j := ⟨_, rfl⟩
    have hj : ((k : Int) + 1) % len = j := by rw [← hjn]; simp
    have hj2 : j < len := by have := Int.emod_lt_of_pos ((k : Int) + 1) hlen; omega
    obtain ⟨c1, c2⟩ := hc j hj2
    have d1 : 0 ≤ ((k : Int) + 1) / len := Int.ediv_nonneg (by omega) (by omega)
    have d2 : ((k : Int) + 1) / len ≤ (k : Int) + 1 := Int.ediv_le_self _ (by omega)
    have e3 := Int.emod_nonneg (z j) (b := 1048576) (by decide)
    have e4 := Int.emod_lt_of_pos (z j) (b := 1048576) (by decide)
    have hx : ringX z len k % n = (((k : Int) + 1) * 7919 % 10007 + z j % 1048576 / (1 + ((k : Int) + 1) / len)) % n := by unfold ringX; rw [if_neg h0, hjn]
    have MO := Go.Lib.hid (fun W => Mod_any (z j) 1048576 W c2 (by decide) (by decide))
    rw [hx]
    clear hx h5 hb hjn c2 h0 hc
    generalize z j % 1048576 = y at *
    generalize z j = x at *
    generalize hq : ((k : Int) + 1) / len = q at *
    have f1 := Int.ediv_nonneg e3 (show 0 ≤ 1 + q by omega)
    have f2 : y / (1 + q) ≤ y := Int.ediv_le_self _ e3
    have m1 := Int.emod_nonneg (((k : Int) + 1) * 7919) (b := 10007) (by decide)
    have m2 := Int.emod_lt_of_pos (((k : Int) + 1) * 7919) (b := 10007) (by decide)
    have hn0 : (n == 0) = false := by simp; omega
    have hl0 : ((len : Int) == 0) = false := by simp; omega
    have hq0 : (1 + q == 0) = false := by simp; omega
    have t1 : ((k : Int) + 1).tmod len = j := by rw [Int.tmod_eq_emod_of_nonneg (by omega)]; exact hj
    have t2 : ((k : Int) + 1).tdiv len = q := by rw [Int.tdiv_eq_ediv_of_nonneg (by omega)]; exact hq
    go_enter Try.func59, Try.ntmps59
    go_wp2_with (first | ((first | with_reducible refine wrx2 ?_ | with_reducible refine wrx ?_); (repeat (first | go_big_quiet_step ((first | (go_at_call 84; with_reducible exact Calls.ext (MO.out _)))) | quiet_step ((first | (go_at_call 84; with_reducible exact Calls.ext (MO.out _)))))); refine wpQuiet_nil ?_; rintro _ ⟨yr, rfl⟩; have syr := Ext.size yr; (repeat (first | rw [World.size_alloc] at syr | rw [World.size_setCell] at syr | rw [World.size_drew] at syr)); have : b < yr.now.heap.size := (by omega); have : b ≤ yr.now.heap.size := (by omega); have : b < yr.now.heap.size + 1 + 1 := (by omega); have : B < yr.now.heap.size := (by omega); have : B ≤ yr.now.heap.size := (by omega); have : B < yr.now.heap.size + 1 + 1 := (by omega)) | (go_at_call 84; (first | with_reducible refine (Calls.giv2 (MO.out _)).mono ?_ | with_reducible refine (Calls.giv (MO.out _)).mono ?_); rintro _ _ ⟨y1, rfl, rfl⟩; have sy1 := Ext.size y1; (repeat (first | rw [World.size_alloc] at sy1 | rw [World.size_setCell] at sy1 | rw [World.size_drew] at sy1)); have : b < y1.now.heap.size := (by omega); have : b ≤ y1.now.heap.size := (by omega); have : b < y1.now.heap.size + 1 + 1 := (by omega); have : B < y1.now.heap.size := (by omega); have : B ≤ y1.now.heap.size := (by omega); have : B < y1.now.heap.size + 1 + 1 := (by omega)))
    go_returns
    refine ⟨rfl, ?_⟩
    repeat' (first | (with_reducible exact Below.refl _ _) | (with_reducible assumption) | (with_reducible refine Ext.below _ ?_ ?_) | (with_reducible refine Below.on ?_ (by with_reducible assumption) ?_) | (with_reducible refine Below.alloc ?_ ?_ _) | (with_reducible refine Below.drew ?_) | (with_reducible refine Below.setCell ?_ ?_ _) | (with_reducible exact Nat.le_refl _) | omega | (simp; done) | (simp [go_sem]; done) | (simp at *; omega))
/-- Nothing that was there has turned but for block b. -/
structure BelowX (b B : Nat) (w w' : World) : Prop where
  os : w'.os = w.os
  tape : w'.tape = w.tape
  output : w'.output = w.output
  size : w.heap.size ≤ w'.heap.size
  block : ∀ k, k < B → k ≠ b → w'.heap[k]? = w.heap[k]?
theorem BelowX.refl (b B : Nat) (w : World) : BelowX b B w w := ⟨rfl, rfl, rfl, Nat.le_refl _, fun _ _ _ => rfl⟩
theorem BelowX.trans {b B : Nat} {u v w : World} (h : BelowX b B u v) (k : BelowX b B v w) : BelowX b B u w :=
  ⟨k.os.trans h.os, k.tape.trans h.tape, k.output.trans h.output, Nat.le_trans h.size k.size, fun i hi hb => (k.block i hi hb).trans (h.block i hi hb)⟩
theorem BelowX.mono {b B B' : Nat} {w w' : World} (h : BelowX b B w w') (hB : B' ≤ B) : BelowX b B' w w' := ⟨h.os, h.tape, h.output, h.size, fun k hk => h.block k (Nat.lt_of_lt_of_le hk hB)⟩
theorem BelowX.of {b B : Nat} {w w' : World} (h : Below B w w') : BelowX b B w w' := ⟨h.os, h.tape, h.output, h.size, fun k hk _ => h.block k hk⟩
theorem BelowX.below {b B : Nat} {w w' : World} (h : BelowX b B w w') (hb : B ≤ b) : Below B w w' := ⟨h.os, h.tape, h.output, h.size, fun k hk => h.block k hk (by omega)⟩
theorem BelowX.drew {b B : Nat} {a w : World} (h : BelowX b B a w) : BelowX b B a w.drew := h.trans (.of ((Below.refl _ _).drew))
theorem BelowX.alloc {b B : Nat} {a w : World} (h : BelowX b B a w) (hB : B ≤ w.heap.size) (o : Obj) : BelowX b B a (w.alloc o) := h.trans (.of ((Below.refl _ _).alloc hB o))
theorem BelowX.setCell {b B : Nat} {a w : World} (h : BelowX b B a w) {p : Addr} (hp : B ≤ p.block) (u : Value) : BelowX b B a (w.setCell p u) := h.trans (.of ((Below.refl _ _).setCell hp u))
theorem BelowX.ring {b B : Nat} {a w : World} (h : BelowX b B a w) (o : Nat) (u : Value) : BelowX b B a (w.setCell ⟨b, o, none⟩ u) :=
  h.trans ⟨rfl, rfl, rfl, by simp [World.setCell], fun k _ hk => Below.heap_setCell _ _ _ _ hk⟩
theorem BelowX.cell {b B : Nat} {w w' : World} (h : BelowX b B w w') {c o : Nat} (hc : c < B) (hb : c ≠ b) : w'.cell? ⟨c, o, none⟩ = w.cell? ⟨c, o, none⟩ := World.cell?_of_block (w := w) (h.block c hc hb)
theorem BelowX.frozen {b B : Nat} {w w' : World} (h : BelowX b B w w') {c o : Nat} (hc : c < B) (hb : c ≠ b) : w'.frozen? ⟨c, o, none⟩ = w.frozen? ⟨c, o, none⟩ := World.frozen?_of_block (w := w) (h.block c hc hb)
/-- A world in which nothing that was there in w has turned but for block b. -/
structure RExt (w : World) (b : Nat) where
  now : World
  grew : BelowX b w.heap.size w now
instance RExt.some (w : World) (b : Nat) : Nonempty (RExt w b) := ⟨⟨w, BelowX.refl _ _ _⟩⟩
theorem RExt.cell {w : World} {b : Nat} (x : RExt w b) {c o : Nat} (h : c < w.heap.size) (hb : c ≠ b) : x.now.cell? ⟨c, o, none⟩ = w.cell? ⟨c, o, none⟩ := x.grew.cell h hb
theorem RExt.frozen {w : World} {b : Nat} (x : RExt w b) {c o : Nat} (h : c < w.heap.size) (hb : c ≠ b) : x.now.frozen? ⟨c, o, none⟩ = w.frozen? ⟨c, o, none⟩ := x.grew.frozen h hb
theorem RExt.size {w : World} {b : Nat} (x : RExt w b) : w.heap.size ≤ x.now.heap.size := x.grew.size
theorem RExt.belowX {B b : Nat} {w w0 : World} (x : RExt w b) (h : BelowX b B w0 w) (hB : B ≤ w.heap.size) : BelowX b B w0 x.now := h.trans (x.grew.mono hB)
theorem Ext.belowX {B b : Nat} {w w0 : World} (x : Ext w) (h : BelowX b B w0 w) (hB : B ≤ w.heap.size) : BelowX b B w0 x.now := h.trans (.of (x.grew.mono hB))
theorem RExt.below {B b : Nat} {w w0 : World} (x : RExt w b) (h : Below B w0 w) (hB : B ≤ w.heap.size) (hb : B ≤ b) : Below B w0 x.now := h.trans ((x.grew.mono hB).below hb)
theorem RExt.lt {w : World} {b : Nat} (x : RExt w b) {n : Nat} (h : n < w.heap.size) : n < x.now.heap.size := Nat.lt_of_lt_of_le h x.size
theorem RExt.le {w : World} {b : Nat} (x : RExt w b) {n : Nat} (h : n ≤ w.heap.size) : n ≤ x.now.heap.size := Nat.le_trans h x.size
theorem RExt.lt_add {w : World} {b : Nat} (x : RExt w b) {n k : Nat} (h : n < w.heap.size + k) : n < x.now.heap.size + k := by have := x.size; omega
theorem RExt.le_add {w : World} {b : Nat} (x : RExt w b) {n k : Nat} (h : n ≤ w.heap.size + k) : n ≤ x.now.heap.size + k := by have := x.size; omega
theorem RExt.ne {w : World} {b : Nat} (x : RExt w b) {n : Nat} (h : n < w.heap.size) : (n = x.now.heap.size) = False := by have := x.size; simp; omega
theorem RExt.ne' {w : World} {b : Nat} (x : RExt w b) {n : Nat} (h : n < w.heap.size) : (x.now.heap.size = n) = False := by have := x.size; simp; omega
attribute [local go_sem] RExt.cell RExt.frozen RExt.lt RExt.le RExt.lt_add RExt.le_add RExt.ne RExt.ne'
/-- What a call gives back, that the ring goes on, and that nothing else that was there has turned. -/
def RGives (v : Value) (b : Nat) (p : Option Addr) (len cap : Nat) (z : Nat → Int) (k : Nat) (w : World) : Ending → World → Prop :=
  fun e w' => e = .returned v ∧ BelowX b w.heap.size w w' ∧ RingAt w' b p len cap z k
theorem Calls.rgiv {P : Program} {f : FuncId} {args : Array Value} {w : World} {v : Value} {b : Nat} {p : Option Addr} {len cap : Nat} {z : Nat → Int} {k : Nat} (h : Calls P f args w (RGives v b p len cap z k w)) :
    Calls P f args w fun e w' => ∃ (y : RExt w b), e = .returned v ∧ w' = y.now ∧ RingAt y.now b p len cap z k :=
  h.mono fun _ _ ⟨he, hb, hr⟩ => ⟨⟨_, hb⟩, he, rfl, hr⟩
theorem RingAt.of_cells {w w' : World} {b : Nat} {p : Option Addr} {len cap : Nat} {z : Nat → Int} {k : Nat} (h : RingAt w b p len cap z k) (hc : ∀ B o, B < w.heap.size → w'.cell? ⟨B, o, none⟩ = w.cell? ⟨B, o, none⟩) (hf : w'.frozen? ⟨b, 1, none⟩ = w.frozen? ⟨b, 1, none⟩) : RingAt w' b p len cap z k := by
  have hl := h.lt
  refine ⟨(hc b 0 hl).trans h.list, (hc b 1 hl).trans h.count, hf.trans h.free, h.long, fun h0 => ?_⟩
  obtain ⟨B, o, hp, hB, hi⟩ := h.some h0
  exact ⟨B, o, hp, hB, fun i hi' => ⟨(hc B (o + i) (by omega)).trans (hi i hi').1, (hi i hi').2⟩⟩
theorem RingAt.alloc {w : World} {b : Nat} {p : Option Addr} {len cap : Nat} {z : Nat → Int} {k : Nat} (h : RingAt w b p len cap z k) (o : Obj) : RingAt (w.alloc o) b p len cap z k := by
  have hl := h.lt
  exact h.of_cells (fun B o hB => by simp [go_sem, hB]) (by simp [go_sem, hl])
theorem RingAt.drew {w : World} {b : Nat} {p : Option Addr} {len cap : Nat} {z : Nat → Int} {k : Nat} (h : RingAt w b p len cap z k) : RingAt w.drew b p len cap z k :=
  h.of_cells (fun _ _ _ => by simp [go_sem]) (by simp [go_sem])
theorem RingAt.ext {w : World} {b : Nat} {p : Option Addr} {len cap : Nat} {z : Nat → Int} {k : Nat} (x : Ext w) (h : RingAt w b p len cap z k) : RingAt x.now b p len cap z k :=
  h.of_cells (fun _ _ hB => x.cell hB) (x.frozen h.lt)
theorem RingAt.set {w : World} {b : Nat} {p : Option Addr} {len cap : Nat} {z : Nat → Int} {k : Nat} (h : RingAt w b p len cap z k) {B o : Nat} (v : Value) (hB : b < B) : RingAt (w.setCell ⟨B, o, none⟩ v) b p len cap z k := by
  have hl := h.lt
  have hne : B ≠ b := by omega
  have hne' : b ≠ B := by omega
  refine ⟨?_, ?_, ?_, h.long, fun h0 => ?_⟩
  · have := h.list; simp [go_sem, this]
  · have := h.count; simp [go_sem, this]
  · have := h.free; simp [go_sem, this]
  · obtain ⟨C, o', hp, hC, hi⟩ := h.some h0
    have h1 : C ≠ B := by omega
    have h2 : B ≠ C := by omega
    exact ⟨C, o', hp, hC, fun i hi' => ⟨by have := (hi i hi').1; simp [go_sem, this], (hi i hi').2⟩⟩
theorem Next_r (n : Int) (b : Nat) (p : Option Addr) (len cap : Nat) (z : Nat → Int) (k : Nat) (w : World) (hk : k < 1000000000) (hn : 0 < n) (hn2 : n < 9223372036854775808) (hr : RingAt w b p len cap z k) :
    Calls Try.prog 59 #[.pointer (some ⟨b, 0, none⟩), .int .i64 n] w (RGives (.int .i64 (ringX z len k % n)) b p len cap z (k + 1) w) :=
  (Next_any n b p len cap z k w hr hk hn hn2).mono fun _ _ ⟨he, hb⟩ => ⟨he, ((BelowX.refl b _ w).ring 1 _).trans (.of (by simpa using hb)), hr.next hb⟩
theorem Range_r (lo hi : Int) (b : Nat) (p : Option Addr) (len cap : Nat) (z : Nat → Int) (k : Nat) (w : World) (hk : k < 1000000000) (hlo : -1000000000000 ≤ lo) (hh : lo ≤ hi) (hhi : hi ≤ 1000000000000) (hr : RingAt w b p len cap z k) :
    Calls Try.prog 25 #[.pointer (some ⟨b, 0, none⟩), .int .i64 lo, .int .i64 hi] w (RGives (.int .i64 (lo + ringX z len k % (hi - lo + 1))) b p len cap z (k + 1) w) := by
  have NX := Go.Lib.hid (fun W => Next_r (hi - lo + 1) b p len cap z k W hk (by omega) (by omega))
  have b1 := Int.emod_nonneg (ringX z len k) (b := hi - lo + 1) (by omega)
  have b2 := Int.emod_lt_of_pos (ringX z len k) (b := hi - lo + 1) (by omega)
  generalize ringX z len k % (hi - lo + 1) = x at *
  have hl := hr.lt
  go_enter Try.func25, Try.ntmps25
  go_wp2_with (first | ((first | with_reducible refine wrx2 ?_ | with_reducible refine wrx ?_); (repeat (first | go_big_quiet_step ((first | fail)) | quiet_step ((first | fail)))); refine wpQuiet_nil ?_; rintro _ ⟨yr, rfl⟩; have syr := Ext.size yr; (repeat (first | rw [World.size_alloc] at syr | rw [World.size_setCell] at syr | rw [World.size_drew] at syr)); have : b < yr.now.heap.size := (by omega); have : b ≤ yr.now.heap.size := (by omega); have : b < yr.now.heap.size + 1 + 1 := (by omega); (try (have rgxr := RingAt.ext yr (by first | (with_reducible assumption) | (with_reducible exact RingAt.alloc (by assumption) _) | (with_reducible exact RingAt.alloc (RingAt.alloc (by assumption) _) _))))) | (go_at_call 59; (with_reducible refine Calls.mono (Calls.rgiv (NX.out _ ?_)) ?_); (focus ((repeat (first | (with_reducible assumption) | (with_reducible refine RingAt.alloc ?_ _) | (with_reducible refine RingAt.drew ?_) | (with_reducible refine RingAt.set ?_ _ (by omega)))); done)); (rintro _ _ ⟨yr1, rfl, rfl, rgr1⟩); have syr1 := RExt.size yr1; (repeat (first | rw [World.size_alloc] at syr1 | rw [World.size_setCell] at syr1 | rw [World.size_drew] at syr1)); have : b < yr1.now.heap.size := (by omega); have : b ≤ yr1.now.heap.size := (by omega); have : b < yr1.now.heap.size + 1 + 1 := (by omega)))
  go_returns
  exact ⟨rfl, yr1.grew, rgr1⟩
/-- The span that SpanOf makes. -/
def spanLo (z : Nat → Int) (len k : Nat) (about wide : Int) : Int := about - ringX z len k % (wide + 1)
def spanHi (z : Nat → Int) (len k : Nat) (about wide : Int) : Int := spanLo z len k about wide + ringX z len (k + 1) % (wide + 1)
theorem spanOf_bounds (z : Nat → Int) (len k : Nat) (about wide : Int) (h : 0 ≤ wide) : about - wide ≤ spanLo z len k about wide ∧ spanLo z len k about wide ≤ about ∧ spanLo z len k about wide ≤ spanHi z len k about wide ∧ spanHi z len k about wide ≤ about + wide := by
  unfold spanHi spanLo
  have b1 := Int.emod_nonneg (ringX z len k) (b := wide + 1) (by omega)
  have b2 := Int.emod_lt_of_pos (ringX z len k) (b := wide + 1) (by omega)
  have b3 := Int.emod_nonneg (ringX z len (k + 1)) (b := wide + 1) (by omega)
  have b4 := Int.emod_lt_of_pos (ringX z len (k + 1)) (b := wide + 1) (by omega)
  omega
theorem SpanOf_r (about wide : Int) (b : Nat) (p : Option Addr) (len cap : Nat) (z : Nat → Int) (k : Nat) (w : World) (hk : k < 100000000) (ha1 : -1000000000 ≤ about) (ha2 : about ≤ 1000000000) (hw1 : 0 ≤ wide) (hw2 : wide ≤ 1000000000) (hr : RingAt w b p len cap z k) :
    Calls Try.prog 62 #[.pointer (some ⟨b, 0, none⟩), .int .i64 about, .int .i64 wide] w (RGives (.agg #[.int .i64 (spanLo z len k about wide), .int .i64 (spanHi z len k about wide)]) b p len cap z (k + 2) w) := by
  have R1 := fun W => Range_r 0 wide b p len cap z k W (by omega) (by omega) hw1 (by omega)
  have R2 := fun W => Range_r 0 wide b p len cap z (k + 1) W (by omega) (by omega) hw1 (by omega)
  have e : wide - 0 + 1 = wide + 1 := by omega
  rw [e] at R1 R2
  unfold spanHi spanLo
  have b1 := Int.emod_nonneg (ringX z len k) (b := wide + 1) (by omega)
  have b2 := Int.emod_lt_of_pos (ringX z len k) (b := wide + 1) (by omega)
  have b3 := Int.emod_nonneg (ringX z len (k + 1)) (b := wide + 1) (by omega)
  have b4 := Int.emod_lt_of_pos (ringX z len (k + 1)) (b := wide + 1) (by omega)
  generalize ringX z len k % (wide + 1) = x at *
  generalize ringX z len (k + 1) % (wide + 1) = y at *
  simp only [Int.zero_add] at R1 R2
  have H1 := Go.Lib.hid R1
  have H2 := Go.Lib.hid R2
  clear R1 R2 e
  have hl := hr.lt
  have hne : w.heap.size ≠ b := by omega
  go_enter Try.func62, Try.ntmps62
  go_wp2_with (first | ((first | with_reducible refine wrx2 ?_ | with_reducible refine wrx ?_); (repeat (first | go_big_quiet_step ((first | fail)) | quiet_step ((first | fail)))); refine wpQuiet_nil ?_; rintro _ ⟨yr, rfl⟩; have syr := Ext.size yr; (repeat (first | rw [World.size_alloc] at syr | rw [World.size_setCell] at syr | rw [World.size_drew] at syr)); have : b < yr.now.heap.size := (by omega); have : b ≤ yr.now.heap.size := (by omega); have : b < yr.now.heap.size + 1 + 1 := (by omega); have : w.heap.size < yr.now.heap.size := (by omega); have : w.heap.size ≤ yr.now.heap.size := (by omega); have : w.heap.size < yr.now.heap.size + 1 + 1 := (by omega); (try (have rgxr := RingAt.ext yr (by first | (with_reducible assumption) | (with_reducible exact RingAt.alloc (by assumption) _) | (with_reducible exact RingAt.alloc (RingAt.alloc (by assumption) _) _))))) | (go_at_call 25; (with_reducible refine Calls.mono (Calls.rgiv (H1.out _ ?_)) ?_); (focus ((repeat (first | (with_reducible assumption) | (with_reducible refine RingAt.alloc ?_ _) | (with_reducible refine RingAt.drew ?_) | (with_reducible refine RingAt.set ?_ _ (by omega)))); done)); (rintro _ _ ⟨yr1, rfl, rfl, rgr1⟩); have syr1 := RExt.size yr1; (repeat (first | rw [World.size_alloc] at syr1 | rw [World.size_setCell] at syr1 | rw [World.size_drew] at syr1)); have : b < yr1.now.heap.size := (by omega); have : b ≤ yr1.now.heap.size := (by omega); have : b < yr1.now.heap.size + 1 + 1 := (by omega); have : w.heap.size < yr1.now.heap.size := (by omega); have : w.heap.size ≤ yr1.now.heap.size := (by omega); have : w.heap.size < yr1.now.heap.size + 1 + 1 := (by omega)) | (go_at_call 25; (with_reducible refine Calls.mono (Calls.rgiv (H2.out _ ?_)) ?_); (focus ((repeat (first | (with_reducible assumption) | (with_reducible refine RingAt.alloc ?_ _) | (with_reducible refine RingAt.drew ?_) | (with_reducible refine RingAt.set ?_ _ (by omega)))); done)); (rintro _ _ ⟨yr2, rfl, rfl, rgr2⟩); have syr2 := RExt.size yr2; (repeat (first | rw [World.size_alloc] at syr2 | rw [World.size_setCell] at syr2 | rw [World.size_drew] at syr2)); have : b < yr2.now.heap.size := (by omega); have : b ≤ yr2.now.heap.size := (by omega); have : b < yr2.now.heap.size + 1 + 1 := (by omega); have : w.heap.size < yr2.now.heap.size := (by omega); have : w.heap.size ≤ yr2.now.heap.size := (by omega); have : w.heap.size < yr2.now.heap.size + 1 + 1 := (by omega)))
  have l0 : yr2.now.cell? ⟨w.heap.size, 0, none⟩ = some (.int .i64 0) := by
    rw [yr2.cell (by omega) hne]; simp [go_sem, hne]
  have l1 : yr2.now.cell? ⟨w.heap.size, 1, none⟩ = some (.int .i64 0) := by
    rw [yr2.cell (by omega) hne]; simp [go_sem, hne]
  refine bodyPost_ret (v := .agg #[.int .i64 (about - x), .int .i64 (about - x + y)]) (by simp [results, Try.results62, go_sem, l0, l1]) rfl ?_
  refine ⟨rfl, ?_, (rgr2.set _ (by omega)).set _ (by omega)⟩
  repeat' (first | (with_reducible exact BelowX.refl _ _ _) | (with_reducible assumption) | (with_reducible refine RExt.belowX _ ?_ ?_) | (with_reducible refine Ext.belowX _ ?_ ?_) | (with_reducible refine BelowX.alloc ?_ ?_ _) | (with_reducible refine BelowX.drew ?_) | (with_reducible refine BelowX.setCell ?_ ?_ _) | (with_reducible exact Nat.le_refl _) | omega | (simp; done) | (simp [go_sem]; done) | (simp at *; omega))
end Go.Proofs.Ytlhihmfefipehaa

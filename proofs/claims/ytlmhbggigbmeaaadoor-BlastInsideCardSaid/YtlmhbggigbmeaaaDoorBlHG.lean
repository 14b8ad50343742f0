/- Contracts of lands: CheckLand, isCell, sum, people, run. Condition: the land stands in memory. Contracts of people, harmOf, run and waveOf for a valid land. Condition: the land stands in memory. -/
import Derived.Test.YtlmhbggigbmeaaaDoorBlGrG
namespace Go.Proofs.YtlmhbggigbmeaaaDoor
open Go.RowKit Go.Shelf
attribute [local go_sem] Option.isSome_some Ext.cell Ext.frozen Ext.lt Ext.le Ext.lt_add Ext.le_add Ext.ne Ext.ne' lt2 lt3 lt4 lt5 le2 le3 le4
/-- Rows of numbers, of booleans. -/
def NumsAt (W : World) (p : Option Addr) (l : List Int) : Prop := ∀ j (h : j < l.length), ∃ B o, p = some ⟨B, o, none⟩ ∧ B < W.heap.size ∧ W.cell? ⟨B, o + j, none⟩ = some (.int .i64 l[j])
def BoolsAt (W : World) (p : Option Addr) (l : List Bool) : Prop := ∀ j (h : j < l.length), ∃ B o, p = some ⟨B, o, none⟩ ∧ B < W.heap.size ∧ W.cell? ⟨B, o + j, none⟩ = some (.bool l[j])
theorem NumsAt.on {W W' : World} {p : Option Addr} {l : List Int} (h : NumsAt W p l) (b : Below W.heap.size W W') : NumsAt W' p l := fun j hj => by
  obtain ⟨B, o, rfl, hB, h1⟩ := h j hj
  exact ⟨B, o, rfl, Nat.lt_of_lt_of_le hB b.size, (b.cell (p := ⟨B, o + j, none⟩) hB).trans h1⟩
theorem BoolsAt.on {W W' : World} {p : Option Addr} {l : List Bool} (h : BoolsAt W p l) (b : Below W.heap.size W W') : BoolsAt W' p l := fun j hj => by
  obtain ⟨B, o, rfl, hB, h1⟩ := h j hj
  exact ⟨B, o, rfl, Nat.lt_of_lt_of_le hB b.size, (b.cell (p := ⟨B, o + j, none⟩) hB).trans h1⟩
/-- A land: where its rows lie, and what is in them. -/
structure LandR where
  pp : Option Addr
  pc : Nat
  pl : List Int
  wp : Option Addr
  wc : Nat
  wl : List Bool
def LandR.val (x : LandR) : Value := .agg #[.slice x.pp x.pl.length x.pc, .slice x.wp x.wl.length x.wc]
structure LandR.At (x : LandR) (W : World) : Prop where
  nums : NumsAt W x.pp x.pl
  bools : BoolsAt W x.wp x.wl
  cap : x.pl.length ≤ x.pc
theorem LandR.At.on {x : LandR} {W W' : World} (h : x.At W) (b : Below W.heap.size W W') : x.At W' := ⟨h.nums.on b, h.bools.on b, h.cap⟩
def pplE : List Int → Int
  | [] => 0
  | n :: l => if 0 ≤ n ∧ n ≤ 4294967296 then pplE l else 2
def landE (x : LandR) : Int := if x.pl.length = 0 then 6 else if 400 < x.pl.length then 8 else if x.wl.length ≠ x.pl.length then 3 else pplE x.pl
structure LandR.Ok (x : LandR) : Prop where
  pos : 0 < x.pl.length
  le : x.pl.length ≤ 400
  len : x.wl.length = x.pl.length
  num : ∀ n ∈ x.pl, 0 ≤ n ∧ n ≤ 4294967296
theorem pplE_ok {l : List Int} : pplE l = 0 ↔ ∀ n ∈ l, 0 ≤ n ∧ n ≤ 4294967296 := by
  induction l with
  | nil => simp [pplE]
  | cons v l ih =>
    unfold pplE
    split
    · rename_i h; rw [ih]; simp [h]
    · rename_i h
      simp only [List.mem_cons, forall_eq_or_imp, h, false_and, iff_false]
      decide
theorem LandR.Ok.e {x : LandR} (h : x.Ok) : landE x = 0 := by
  unfold landE
  rw [if_neg (by have := h.pos; omega), if_neg (by have := h.le; omega), if_neg (by have := h.len; omega)]
  exact pplE_ok.2 h.num
theorem sum_bound {l : List Int} (h : ∀ n ∈ l, 0 ≤ n ∧ n ≤ 4294967296) : 0 ≤ l.sum ∧ l.sum ≤ 4294967296 * l.length := by
  induction l with
  | nil => simp
  | cons a l ih =>
    have h1 := ih (fun n hn => h n (by simp [hn]))
    have h2 := h a (by simp)
    simp only [List.sum_cons, List.length_cons]
    omega
set_option maxHeartbeats 4000000 in
theorem sum_any (p : Option Addr) (c : Nat) (l : List Int) (w : World) (hP : NumsAt w p l) (hn : l.length ≤ 400) (hb : ∀ n ∈ l, 0 ≤ n ∧ n ≤ 4294967296) : Calls Tryd.prog 100 #[.slice p l.length c] w (Gives (.int .i64 l.sum) w) := by
  have hP := Go.Lib.hid hP
  have hb := Go.Lib.hid hb
  go_enter Tryd.func100, Tryd.ntmps100
  go_wp2_with (first | ((first | with_reducible refine wrx2 ?_ | with_reducible refine wrx ?_); (repeat (first | go_big_quiet_step ((first | fail)) | quiet_step ((first | fail)))); refine wpQuiet_nil ?_; rintro _ ⟨yr, rfl⟩; have syr := Ext.size yr; (repeat (first | rw [World.size_alloc] at syr | rw [World.size_setCell] at syr | rw [World.size_drew] at syr))))
  go_loopw [3, 8] (fun t s W => ∃ (i : Nat) (z : Int) (x : Ext w), t = .int .i64 z ∧ s = .int .i64 i ∧ W = x.now ∧ Hid (i ≤ l.length ∧ z = (l.take i).sum)) (fun _ s _ => l.length - (intOf s).toNat)
  case atStart => exact ⟨0, 0, ⟨w, Below.refl _ _⟩, rfl, rfl, rfl, Go.Lib.hid ⟨Nat.zero_le _, by simp⟩⟩
  case round =>
    obtain ⟨i, z, x, rfl, rfl, rfl, hi⟩ := hrel
    have xs := x.size
    by_cases hlt : i < l.length
    · have hlt2 : (i : Int) < l.length := by omega
      obtain ⟨B, o, rfl, hB, c1⟩ := hP.out i hlt
      have key : Hid (i + 1 ≤ l.length ∧ z + l[i] = (l.take (i + 1)).sum) := Go.Lib.hid ⟨hlt, by rw [List.take_succ_eq_append_getElem hlt, List.sum_append, hi.out.2]; simp⟩
      have hz : 0 ≤ z ∧ z ≤ 4294967296 * 400 := by
        have := sum_bound (l := l.take i) (fun n hn => hb.out n (List.mem_of_mem_take hn))
        have e : (l.take i).length ≤ 400 := by rw [List.length_take]; omega
        rw [hi.out.2]; omega
      have hbi := hb.out l[i] (List.getElem_mem hlt)
      clear hi
      generalize l[i] = v at *
      obtain ⟨z1, z2⟩ := hz
      obtain ⟨v1, v2⟩ := hbi
      go_wp2_with (first | ((first | with_reducible refine wrx2 ?_ | with_reducible refine wrx ?_); (repeat (first | go_big_quiet_step ((first | fail)) | quiet_step ((first | fail)))); refine wpQuiet_nil ?_; rintro _ ⟨yr, rfl⟩; have syr := Ext.size yr; (repeat (first | rw [World.size_alloc] at syr | rw [World.size_setCell] at syr | rw [World.size_drew] at syr)); have : B < yr.now.heap.size := (by omega); have : B ≤ yr.now.heap.size := (by omega); have : B < yr.now.heap.size + 1 + 1 := (by omega)))
      exact ⟨⟨i + 1, z + v, x, rfl, by simp, rfl, key⟩, by simp [intOf]; omega⟩
    · have hge : ¬ (i : Int) < l.length := by omega
      have eV : z = l.sum := by rw [hi.out.2, List.take_of_length_le (by omega)]
      clear hi
      subst eV
      go_wp2_with (first | ((first | with_reducible refine wrx2 ?_ | with_reducible refine wrx ?_); (repeat (first | go_big_quiet_step ((first | fail)) | quiet_step ((first | fail)))); refine wpQuiet_nil ?_; rintro _ ⟨yr, rfl⟩; have syr := Ext.size yr; (repeat (first | rw [World.size_alloc] at syr | rw [World.size_setCell] at syr | rw [World.size_drew] at syr))))
      go_returns
      refine ⟨rfl, ?_⟩
      repeat' (first | (with_reducible exact Below.refl _ _) | (with_reducible assumption) | (with_reducible refine Ext.below _ ?_ ?_) | (with_reducible refine Below.on ?_ (by with_reducible assumption) ?_) | (with_reducible refine Below.alloc ?_ ?_ _) | (with_reducible refine Below.drew ?_) | (with_reducible refine Below.setCell ?_ ?_ _) | (with_reducible exact Nat.le_refl _) | omega | (simp; done) | (simp [go_sem]; done) | (simp at *; omega))
theorem isCell_any (x : LandR) (at' : Int) (w : World) : Calls Tryd.prog 59 #[x.val, .int .i64 at'] w (Gives (.bool (decide (0 ≤ at' ∧ at' < x.pl.length))) w) := by
  unfold LandR.val
  go_enter Tryd.func59, Tryd.ntmps59
  go_wp2_with (first | ((first | with_reducible refine wrx2 ?_ | with_reducible refine wrx ?_); (repeat (first | go_big_quiet_step ((first | fail)) | quiet_step ((first | fail)))); refine wpQuiet_nil ?_; rintro _ ⟨yr, rfl⟩; have syr := Ext.size yr; (repeat (first | rw [World.size_alloc] at syr | rw [World.size_setCell] at syr | rw [World.size_drew] at syr))))
  all_goals go_returns
  all_goals refine ⟨ret_bool ?_, ?_⟩
  all_goals first
    | (rw [decide_eq_decide]; omega)
    | (simp; omega)
    | (symm; simp; omega)
    | ((repeat' (first | (with_reducible exact Below.refl _ _) | (with_reducible assumption) | (with_reducible refine Ext.below _ ?_ ?_) | (with_reducible refine Below.on ?_ (by with_reducible assumption) ?_) | (with_reducible refine Below.alloc ?_ ?_ _) | (with_reducible refine Below.drew ?_) | (with_reducible refine Below.setCell ?_ ?_ _) | (with_reducible exact Nat.le_refl _) | omega | (simp; done) | (simp [go_sem]; done) | (simp at *; omega))); done)
end Go.Proofs.YtlmhbggigbmeaaaDoor
namespace Go.Proofs.YtlmhbggigbmeaaaDoor
open Go.RowKit Go.Shelf
attribute [local go_sem] Option.isSome_some Ext.cell Ext.frozen Ext.lt Ext.le Ext.lt_add Ext.le_add Ext.ne Ext.ne' lt2 lt3 lt4 lt5 le2 le3 le4
theorem NumsAt.part {W : World} {B o : Nat} {l : List Int} {a m : Nat} (h : NumsAt W (some ⟨B, o, none⟩) l) (hm : a + m ≤ l.length) : NumsAt W (some ⟨B, o + a, none⟩) ((l.drop a).take m) := fun j hj => by
  rw [List.length_take, List.length_drop] at hj
  obtain ⟨B', o', e, hB, h1⟩ := h (a + j) (by omega)
  injection e with e
  injection e with e1 e2
  subst e1 e2
  refine ⟨B, o + a, rfl, hB, ?_⟩
  rw [show o + a + j = o + (a + j) by omega, h1]
  simp
set_option maxHeartbeats 4000000 in
theorem people_any (x : LandR) (a b : Int) (w : World) (hx : x.At w) (hok : x.Ok) (h0 : 0 ≤ a) (h1 : a ≤ b) (h2 : b < x.pl.length) : Calls Tryd.prog 84 #[x.val, .int .i64 a, .int .i64 b] w (Gives (.int .i64 (seg x.pl a b)) w) := by
  obtain ⟨a, rfl⟩ := Int.eq_ofNat_of_zero_le h0
  obtain ⟨m, rfl⟩ : ∃ m : Nat, b = (a : Int) + m := ⟨(b - a).toNat, by omega⟩
  obtain ⟨B, o, hp, hB, -⟩ := hx.nums 0 hok.pos
  have hcap := hx.cap
  have hle := hok.le
  have hpart := fun (W : World) (y : Below w.heap.size w W) => sum_any (some ⟨B, o + a, none⟩) (m + 1) ((x.pl.drop a).take (m + 1)) W (NumsAt.part (hp ▸ hx.nums.on y) (by omega)) (by rw [List.length_take]; omega) (fun n hn => hok.num n (List.mem_of_mem_drop (List.mem_of_mem_take hn)))
  have hlen : ((x.pl.drop a).take (m + 1)).length = m + 1 := by rw [List.length_take, List.length_drop]; omega
  have hseg : ((x.pl.drop a).take (m + 1)).sum = seg x.pl a (a + m) := by
    have := seg_part (l := x.pl) (a := a) (b := a + m) (by omega) (by omega)
    rw [← this]
    congr 2
    · congr 1
      omega
  rw [hlen, hseg, show m + 1 = a + m + 1 - a by omega] at hpart
  unfold LandR.val
  rw [hp]
  generalize seg x.pl a (a + m) = S at *
  clear hseg hlen hx hok
  generalize x.pl.length = n at *
  have g1 : (a : Int) ≤ a + m + 1 := by omega
  have g2 : (a : Int) + m + 1 ≤ n := by omega
  have g3 : (a : Int) + m + 1 ≤ x.pc := by omega
  go_enter Tryd.func84, Tryd.ntmps84
  go_wp2_with (first | ((first | with_reducible refine wrx2 ?_ | with_reducible refine wrx ?_); (repeat (first | go_big_quiet_step ((first | (go_at_call 100; with_reducible exact Calls.ext (hpart _ bcl)))) | quiet_step ((first | (go_at_call 100; with_reducible exact Calls.ext (hpart _ bcl)))))); refine wpQuiet_nil ?_; rintro _ ⟨yr, rfl⟩; have syr := Ext.size yr; (repeat (first | rw [World.size_alloc] at syr | rw [World.size_setCell] at syr | rw [World.size_drew] at syr)); have : B < yr.now.heap.size := (by omega); have : B ≤ yr.now.heap.size := (by omega); have : B < yr.now.heap.size + 1 + 1 := (by omega)) | (go_at_call 100; (first | with_reducible refine (Calls.giv2 (hpart _ bcl)).mono ?_ | with_reducible refine (Calls.giv (hpart _ bcl)).mono ?_); rintro _ _ ⟨y1, rfl, rfl⟩; have sy1 := Ext.size y1; (repeat (first | rw [World.size_alloc] at sy1 | rw [World.size_setCell] at sy1 | rw [World.size_drew] at sy1)); have : B < y1.now.heap.size := (by omega); have : B ≤ y1.now.heap.size := (by omega); have : B < y1.now.heap.size + 1 + 1 := (by omega)))
  go_returns
  refine ⟨rfl, ?_⟩
  repeat' (first | (with_reducible exact Below.refl _ _) | (with_reducible assumption) | (with_reducible refine Ext.below _ ?_ ?_) | (with_reducible refine Below.on ?_ (by with_reducible assumption) ?_) | (with_reducible refine Below.alloc ?_ ?_ _) | (with_reducible refine Below.drew ?_) | (with_reducible refine Below.setCell ?_ ?_ _) | (with_reducible exact Nat.le_refl _) | omega | (simp; done) | (simp [go_sem]; done) | (simp at *; omega))
theorem harmOf_any (x : LandR) (at' r : Int) (w : World) (hx : x.At w) (hok : x.Ok) (h0 : 0 ≤ at') (h1 : at' < x.pl.length) (hr : 0 ≤ r) (_hr2 : I64 r) : Calls Tryd.prog 60 #[x.val, .int .i64 at', .int .i64 r] w (Gives (.int .i64 (seg x.pl (max (at' - min r 400) 0) (min (at' + min r 400) (x.pl.length - 1)))) w) := by
  have hle := hok.le
  obtain ⟨R, hR⟩ : ∃ R, min r 400 = R := ⟨_, rfl⟩
  have hR2 : 0 ≤ R ∧ R ≤ 400 := by omega
  rw [hR]
  obtain ⟨A, hA⟩ : ∃ A, max (at' - R) 0 = A := ⟨_, rfl⟩
  obtain ⟨B, hB⟩ : ∃ B, min (at' + R) ((x.pl.length : Int) - 1) = B := ⟨_, rfl⟩
  rw [hA, hB]
  have cp := fun (W : World) (y : Below w.heap.size w W) => people_any x A B W (hx.on y) hok (by omega) (by omega) (by omega)
  unfold LandR.val at *
  generalize seg x.pl A B = S at *
  clear hx hok
  generalize x.pl.length = n at *
  obtain ⟨q1, q2⟩ := hR2
  unfold I64 at _hr2
  go_enter Tryd.func60, Tryd.ntmps60
  go_wp2_with (first | ((first | with_reducible refine wrx2 ?_ | with_reducible refine wrx ?_); (repeat (first | go_big_quiet_step ((first | (go_at_call 84; with_reducible exact Calls.ext (cp _ bcl)))) | quiet_step ((first | (go_at_call 84; with_reducible exact Calls.ext (cp _ bcl)))))); refine wpQuiet_nil ?_; rintro _ ⟨yr, rfl⟩; have syr := Ext.size yr; (repeat (first | rw [World.size_alloc] at syr | rw [World.size_setCell] at syr | rw [World.size_drew] at syr))) | (go_at_call 84; (first | with_reducible refine (Calls.giv2 (cp _ bcl)).mono ?_ | with_reducible refine (Calls.giv (cp _ bcl)).mono ?_); rintro _ _ ⟨y1, rfl, rfl⟩; have sy1 := Ext.size y1; (repeat (first | rw [World.size_alloc] at sy1 | rw [World.size_setCell] at sy1 | rw [World.size_drew] at sy1))))
  all_goals go_returns
  all_goals refine ⟨rfl, ?_⟩
  repeat' (first | (with_reducible exact Below.refl _ _) | (with_reducible assumption) | (with_reducible refine Ext.below _ ?_ ?_) | (with_reducible refine Below.on ?_ (by with_reducible assumption) ?_) | (with_reducible refine Below.alloc ?_ ?_ _) | (with_reducible refine Below.drew ?_) | (with_reducible refine Below.setCell ?_ ?_ _) | (with_reducible exact Nat.le_refl _) | omega | (simp; done) | (simp [go_sem]; done) | (simp at *; omega))
set_option maxRecDepth 100000 in
set_option maxHeartbeats 8000000 in
theorem run_any (x : LandR) (at' r dir : Int) (w : World) (hx : x.At w) (hok : x.Ok) (h0 : 0 ≤ at') (h1 : at' < x.pl.length) (hr : 0 ≤ r) (hr2 : I64 r) (ht : dir = -1 ∨ dir = 1) : Calls Tryd.prog 85 #[x.val, .int .i64 at', .int .i64 r, .int .i64 dir] w (Gives (.int .i64 (runI x.wl dir r.toNat at')) w) := by
  have hle := hok.le
  have hlen := hok.len
  obtain ⟨V, hV⟩ : ∃ V, runI x.wl dir r.toNat at' = V := ⟨_, rfl⟩
  rw [hV]
  replace hV := Go.Lib.hid hV
  have hb := Go.Lib.hid (fun (W : World) (y : Below w.heap.size w W) => hx.bools.on y)
  have ci := fun (a : Int) (W : World) => isCell_any x a W
  unfold LandR.val at *
  unfold I64 at hr2
  generalize x.pl.length = n at *
  rw [hlen]
  rw [hlen] at ci
  clear hx hok
  go_enter Tryd.func85, Tryd.ntmps85
  go_wp2_with (first | ((first | with_reducible refine wrx2 ?_ | with_reducible refine wrx ?_); (repeat (first | go_big_quiet_step ((first | fail)) | quiet_step ((first | fail)))); refine wpQuiet_nil ?_; rintro _ ⟨yr, rfl⟩; have syr := Ext.size yr; (repeat (first | rw [World.size_alloc] at syr | rw [World.size_setCell] at syr | rw [World.size_drew] at syr))))
  refine wp_named (fun W0 hW => ?_)
  have a1 : W0.cell? ⟨w.heap.size, 1, none⟩ = some (.slice x.wp n x.wc) := by rw [← hW]; simp [go_sem]
  have a0 : W0.cell? ⟨w.heap.size, 0, none⟩ = some (.slice x.pp n x.pc) := by rw [← hW]; simp [go_sem]
  have hB0 : Below w.heap.size w W0 := by rw [← hW]; repeat' (first | (with_reducible exact Below.refl _ _) | (with_reducible assumption) | (with_reducible refine Ext.below _ ?_ ?_) | (with_reducible refine Below.on ?_ (by with_reducible assumption) ?_) | (with_reducible refine Below.alloc ?_ ?_ _) | (with_reducible refine Below.drew ?_) | (with_reducible refine Below.setCell ?_ ?_ _) | (with_reducible exact Nat.le_refl _) | omega | (simp; done) | (simp [go_sem]; done) | (simp at *; omega))
  have hs0 : w.heap.size < W0.heap.size := by rw [← hW]; simp
  clear hW
  have hb0 := hb.out W0 hB0
  have hrl := Go.Lib.hid hlen
  go_loopw [1, 2] (fun t s W => ∃ (a k : Int) (x2 : Ext W0), t = .int .i64 a ∧ s = .int .i64 k ∧ W = x2.now ∧ Hid ((0 ≤ a ∧ a < n) ∧ (0 ≤ k ∧ k < 9223372036854775808) ∧ runI x.wl dir k.toNat a = V)) (fun _ s _ => (intOf s).toNat)
  case atStart => exact ⟨at', r, ⟨W0, Below.refl _ _⟩, rfl, rfl, rfl, Go.Lib.hid ⟨⟨h0, h1⟩, ⟨hr, hr2.2⟩, hV.out⟩⟩
  case round =>
    obtain ⟨a, k, x2, rfl, rfl, rfl, hi⟩ := hrel
    have xs := x2.size
    obtain ⟨⟨g1, g2⟩, ⟨g3, g4⟩, hE⟩ := hi.out
    obtain ⟨a, rfl⟩ := Int.eq_ofNat_of_zero_le g1
    obtain ⟨B, o, hp, hB, c1⟩ := hb0 a (by omega)
    have hget : x.wl.getD a false = x.wl[a]'(by omega) := by simp [List.getD, show a < x.wl.length by omega]
    by_cases hk : 0 < k
    · obtain ⟨m, hm⟩ : ∃ m : Nat, k.toNat = m + 1 := ⟨k.toNat - 1, by omega⟩
      have hkm : (k - 1).toNat = m := by omega
      rw [hm, runI] at hE
      simp only [Int.toNat_natCast, hlen] at hE
      rw [hget] at hE
      generalize x.wl[a]'(by omega) = bw at *
      rw [hp] at a1
      simp only [hp] at ci
      clear hi hm hget hp
      cases bw
      · have eV : V = a := by rw [← hE]; simp
        subst eV
        clear hE hV
        rcases ht with rfl | rfl
        all_goals
          go_wp2_with (first | ((first | with_reducible refine wrx2 ?_ | with_reducible refine wrx ?_); (repeat (first | go_big_quiet_step ((first | (go_at_call 59; with_reducible exact Calls.ext (ci _ _)))) | quiet_step ((first | (go_at_call 59; with_reducible exact Calls.ext (ci _ _)))))); refine wpQuiet_nil ?_; rintro _ ⟨yr, rfl⟩; have syr := Ext.size yr; (repeat (first | rw [World.size_alloc] at syr | rw [World.size_setCell] at syr | rw [World.size_drew] at syr)); have : w.heap.size < yr.now.heap.size := (by omega); have : w.heap.size ≤ yr.now.heap.size := (by omega); have : w.heap.size < yr.now.heap.size + 1 + 1 := (by omega); have : B < yr.now.heap.size := (by omega); have : B ≤ yr.now.heap.size := (by omega); have : B < yr.now.heap.size + 1 + 1 := (by omega)) | (go_at_call 59; (first | with_reducible refine (Calls.giv2 (ci _ _)).mono ?_ | with_reducible refine (Calls.giv (ci _ _)).mono ?_); rintro _ _ ⟨y1, rfl, rfl⟩; have sy1 := Ext.size y1; (repeat (first | rw [World.size_alloc] at sy1 | rw [World.size_setCell] at sy1 | rw [World.size_drew] at sy1)); have : w.heap.size < y1.now.heap.size := (by omega); have : w.heap.size ≤ y1.now.heap.size := (by omega); have : w.heap.size < y1.now.heap.size + 1 + 1 := (by omega); have : B < y1.now.heap.size := (by omega); have : B ≤ y1.now.heap.size := (by omega); have : B < y1.now.heap.size + 1 + 1 := (by omega)))
          go_returns
          refine ⟨rfl, ?_⟩
          repeat' (first | (with_reducible exact Below.refl _ _) | (with_reducible assumption) | (with_reducible refine Ext.below _ ?_ ?_) | (with_reducible refine Below.on ?_ (by with_reducible assumption) ?_) | (with_reducible refine Below.alloc ?_ ?_ _) | (with_reducible refine Below.drew ?_) | (with_reducible refine Below.setCell ?_ ?_ _) | (with_reducible exact Nat.le_refl _) | omega | (simp; done) | (simp [go_sem]; done) | (simp at *; omega))
      · by_cases hc : 0 ≤ (a : Int) + dir ∧ (a : Int) + dir < n
        · have key : Hid ((0 ≤ (a : Int) + dir ∧ (a : Int) + dir < n) ∧ (0 ≤ k - 1 ∧ k - 1 < 9223372036854775808) ∧ runI x.wl dir (k - 1).toNat ((a : Int) + dir) = V) := Go.Lib.hid ⟨hc, by omega, by rw [if_pos ⟨rfl, hc⟩] at hE; rw [hkm]; exact hE⟩
          have c2 := fun W => ci ((a : Int) + dir) W
          rw [decide_eq_true hc] at c2
          obtain ⟨k1, k2⟩ := hc
          clear hE hkm ci
          rcases ht with rfl | rfl
          all_goals
            go_wp2_with (first | ((first | with_reducible refine wrx2 ?_ | with_reducible refine wrx ?_); (repeat (first | go_big_quiet_step ((first | (go_at_call 59; with_reducible exact Calls.ext (c2 _)))) | quiet_step ((first | (go_at_call 59; with_reducible exact Calls.ext (c2 _)))))); refine wpQuiet_nil ?_; rintro _ ⟨yr, rfl⟩; have syr := Ext.size yr; (repeat (first | rw [World.size_alloc] at syr | rw [World.size_setCell] at syr | rw [World.size_drew] at syr)); have : w.heap.size < yr.now.heap.size := (by omega); have : w.heap.size ≤ yr.now.heap.size := (by omega); have : w.heap.size < yr.now.heap.size + 1 + 1 := (by omega); have : B < yr.now.heap.size := (by omega); have : B ≤ yr.now.heap.size := (by omega); have : B < yr.now.heap.size + 1 + 1 := (by omega)) | (go_at_call 59; (first | with_reducible refine (Calls.giv2 (c2 _)).mono ?_ | with_reducible refine (Calls.giv (c2 _)).mono ?_); rintro _ _ ⟨y1, rfl, rfl⟩; have sy1 := Ext.size y1; (repeat (first | rw [World.size_alloc] at sy1 | rw [World.size_setCell] at sy1 | rw [World.size_drew] at sy1)); have : w.heap.size < y1.now.heap.size := (by omega); have : w.heap.size ≤ y1.now.heap.size := (by omega); have : w.heap.size < y1.now.heap.size + 1 + 1 := (by omega); have : B < y1.now.heap.size := (by omega); have : B ≤ y1.now.heap.size := (by omega); have : B < y1.now.heap.size + 1 + 1 := (by omega)))
            refine ⟨⟨_, k - 1, y1, rfl, rfl, rfl, key⟩, by simp only [intOf]; omega⟩
        · have eV : V = a := by rw [← hE, if_neg (fun h => hc h.2)]
          have c2 := fun W => ci ((a : Int) + dir) W
          rw [decide_eq_false hc] at c2
          subst eV
          clear hE hV hc ci
          rcases ht with rfl | rfl
          all_goals
            go_wp2_with (first | ((first | with_reducible refine wrx2 ?_ | with_reducible refine wrx ?_); (repeat (first | go_big_quiet_step ((first | (go_at_call 59; with_reducible exact Calls.ext (c2 _)))) | quiet_step ((first | (go_at_call 59; with_reducible exact Calls.ext (c2 _)))))); refine wpQuiet_nil ?_; rintro _ ⟨yr, rfl⟩; have syr := Ext.size yr; (repeat (first | rw [World.size_alloc] at syr | rw [World.size_setCell] at syr | rw [World.size_drew] at syr)); have : w.heap.size < yr.now.heap.size := (by omega); have : w.heap.size ≤ yr.now.heap.size := (by omega); have : w.heap.size < yr.now.heap.size + 1 + 1 := (by omega); have : B < yr.now.heap.size := (by omega); have : B ≤ yr.now.heap.size := (by omega); have : B < yr.now.heap.size + 1 + 1 := (by omega)) | (go_at_call 59; (first | with_reducible refine (Calls.giv2 (c2 _)).mono ?_ | with_reducible refine (Calls.giv (c2 _)).mono ?_); rintro _ _ ⟨y1, rfl, rfl⟩; have sy1 := Ext.size y1; (repeat (first | rw [World.size_alloc] at sy1 | rw [World.size_setCell] at sy1 | rw [World.size_drew] at sy1)); have : w.heap.size < y1.now.heap.size := (by omega); have : w.heap.size ≤ y1.now.heap.size := (by omega); have : w.heap.size < y1.now.heap.size + 1 + 1 := (by omega); have : B < y1.now.heap.size := (by omega); have : B ≤ y1.now.heap.size := (by omega); have : B < y1.now.heap.size + 1 + 1 := (by omega)))
            go_returns
            refine ⟨rfl, ?_⟩
            repeat' (first | (with_reducible exact Below.refl _ _) | (with_reducible assumption) | (with_reducible refine Ext.below _ ?_ ?_) | (with_reducible refine Below.on ?_ (by with_reducible assumption) ?_) | (with_reducible refine Below.alloc ?_ ?_ _) | (with_reducible refine Below.drew ?_) | (with_reducible refine Below.setCell ?_ ?_ _) | (with_reducible exact Nat.le_refl _) | omega | (simp; done) | (simp [go_sem]; done) | (simp at *; omega))
    · have hk0 : k = 0 := by omega
      subst hk0
      have eV : V = a := by rw [← hE]; rfl
      subst eV
      clear hE hV hi
      go_wp2_with (first | ((first | with_reducible refine wrx2 ?_ | with_reducible refine wrx ?_); (repeat (first | go_big_quiet_step ((first | fail)) | quiet_step ((first | fail)))); refine wpQuiet_nil ?_; rintro _ ⟨yr, rfl⟩; have syr := Ext.size yr; (repeat (first | rw [World.size_alloc] at syr | rw [World.size_setCell] at syr | rw [World.size_drew] at syr)); have : w.heap.size < yr.now.heap.size := (by omega); have : w.heap.size ≤ yr.now.heap.size := (by omega); have : w.heap.size < yr.now.heap.size + 1 + 1 := (by omega)))
      go_returns
      refine ⟨rfl, ?_⟩
      repeat' (first | (with_reducible exact Below.refl _ _) | (with_reducible assumption) | (with_reducible refine Ext.below _ ?_ ?_) | (with_reducible refine Below.on ?_ (by with_reducible assumption) ?_) | (with_reducible refine Below.alloc ?_ ?_ _) | (with_reducible refine Below.drew ?_) | (with_reducible refine Below.setCell ?_ ?_ _) | (with_reducible exact Nat.le_refl _) | omega | (simp; done) | (simp [go_sem]; done) | (simp at *; omega))
end Go.Proofs.YtlmhbggigbmeaaaDoor

/- Contracts of lands: CheckLand, isCell, sum, people, run. Condition: the land stands in memory. -/
import Derived.Test.YtfjieblihbnmjaaDoorBlE
namespace Go.Proofs.YtfjieblihbnmjaaDoor
open Go.RowKit Go.Shelf
attribute [local go_sem] Option.isSome_some Ext.cell Ext.frozen Ext.lt Ext.le Ext.lt_add Ext.le_add Ext.ne Ext.ne' lt2 lt3 lt4 lt5 le2 le3 le4
/-- Rows of numbers, of booleans. -/
def NumsAt (W : World) (p : Option Addr) (l : List Int) : Prop := ∀ j (h : j < l.length), ∃ B o, p = some ⟨B, o, none⟩ ∧ B < W.heap.size ∧ W.cell? ⟨B, o + j, none⟩ = some (.int .i64 l[j])
def BoolsAt (W : World) (p : Option Addr) (l : List Bool) : Prop := ∀ j (h : j < l.length), ∃ B o, p = some ⟨B, o, none⟩ ∧ B < W.heap.size ∧ W.cell? ⟨B, o + j, none⟩ = some (.bool l[j])
theorem NumsAt.on {W W' : World} {p : Option Addr} {l : List Int} (h : NumsAt W p l) (b : Below W.heap.size W W') : NumsAt W' p l := fun j hj => by
  obtain ⟨B, o, rfl, hB, h1⟩ := h j hj
  exact ⟨B, o, rfl, Nat.lt_of_lt_of_le hB b.size, (b.cell (p := ⟨B, o + j, none⟩) hB).trans h1⟩
theorem BoolsAt.on {W W' : World} {p : Option Addr} {l : List Bool} (h : BoolsAt W p l) (b : Below W.heap.size W W') : BoolsAt W' p l := fun j hj => by
  obtain ⟨B, o, rfl, hB, h1⟩ := h j hj
  exact ⟨B, o, rfl, Nat.lt_of_lt_of_le hB b.size, (b.cell (p := ⟨B, o + j, none⟩) hB).trans h1⟩
/-- A land: where its rows lie, and what is in them. -/
structure LandR where
  pp : Option Addr
  pc : Nat
  pl : List Int
  wp : Option Addr
  wc : Nat
  wl : List Bool
def LandR.val (x : LandR) : Value := .agg #[.slice x.pp x.pl.length x.pc, .slice x.wp x.wl.length x.wc]
structure LandR.At (x : LandR) (W : World) : Prop where
  nums : NumsAt W x.pp x.pl
  bools : BoolsAt W x.wp x.wl
  cap : x.pl.length ≤ x.pc
theorem LandR.At.on {x : LandR} {W W' : World} (h : x.At W) (b : Below W.heap.size W W') : x.At W' := ⟨h.nums.on b, h.bools.on b, h.cap⟩
def pplE : List Int → Int
  | [] => 0
  | n :: l => if 0 ≤ n ∧ n ≤ 4294967296 then pplE l else 2
def landE (x : LandR) : Int := if x.pl.length = 0 then 6 else if 400 < x.pl.length then 8 else if x.wl.length ≠ x.pl.length then 3 else pplE x.pl
structure LandR.Ok (x : LandR) : Prop where
  pos : 0 < x.pl.length
  le : x.pl.length ≤ 400
  len : x.wl.length = x.pl.length
  num : ∀ n ∈ x.pl, 0 ≤ n ∧ n ≤ 4294967296
theorem pplE_ok {l : List Int} : pplE l = 0 ↔ ∀ n ∈ l, 0 ≤ n ∧ n ≤ 4294967296 := by
  induction l with
  | nil => simp [pplE]
  | cons v l ih =>
    unfold pplE
    split
    · rename_i h; rw [ih]; simp [h]
    · rename_i h
      simp only [List.mem_cons, forall_eq_or_imp, h, false_and, iff_false]
      decide
theorem LandR.Ok.e {x : LandR} (h : x.Ok) : landE x = 0 := by
  unfold landE
  rw [if_neg (by have := h.pos; omega), if_neg (by have := h.le; omega), if_neg (by have := h.len; omega)]
  exact pplE_ok.2 h.num
theorem sum_bound {l : List Int} (h : ∀ n ∈ l, 0 ≤ n ∧ n ≤ 4294967296) : 0 ≤ l.sum ∧ l.sum ≤ 4294967296 * l.length := by
  induction l with
  | nil => simp
  | cons a l ih =>
    have h1 := ih (fun n hn => h n (by simp [hn]))
    have h2 := h a (by simp)
    simp only [List.sum_cons, List.length_cons]
    omega
set_option maxHeartbeats 4000000 in
theorem sum_any (p : Option Addr) (c : Nat) (l : List Int) (w : World) (hP : NumsAt w p l) (hn : l.length ≤ 400) (hb : ∀ n ∈ l, 0 ≤ n ∧ n ≤ 4294967296) : Calls Tryd.prog 104 #[.slice p l.length c] w (Gives (.int .i64 l.sum) w) := by
  have hP := Go.Lib.hid hP
  have hb := Go.Lib.hid hb
  go_enter Tryd.func104, Tryd.ntmps104
  go_wp2_with (first | ((first | with_reducible refine wp_region_ext2 (by kernel_rfl) (by kernel_rfl) ?_ | with_reducible refine wp_region_ext (by kernel_rfl) (by kernel_rfl) ?_); (repeat (first | go_big_quiet_step ((first | fail)) | quiet_step ((first | fail)))); refine wpQuiet_nil ?_; rintro _ ⟨yr, rfl⟩; have syr := Ext.size yr; (repeat (first | rw [World.size_alloc] at syr | rw [World.size_setCell] at syr | rw [World.size_drew] at syr))))
  go_loopw [3, 8] (fun t s W => ∃ (i : Nat) (z : Int) (x : Ext w), t = .int .i64 z ∧ s = .int .i64 i ∧ W = x.now ∧ Hid (i ≤ l.length ∧ z = (l.take i).sum)) (fun _ s _ => l.length - (intOf s).toNat)
  case atStart => exact ⟨0, 0, ⟨w, Below.refl _ _⟩, rfl, rfl, rfl, Go.Lib.hid ⟨Nat.zero_le _, by simp⟩⟩
  case round =>
    obtain ⟨i, z, x, rfl, rfl, rfl, hi⟩ := hrel
    have xs := x.size
    by_cases hlt : i < l.length
    · have hlt2 : (i : Int) < l.length := by omega
      obtain ⟨B, o, rfl, hB, c1⟩ := hP.out i hlt
      have key : Hid (i + 1 ≤ l.length ∧ z + l[i] = (l.take (i + 1)).sum) := Go.Lib.hid ⟨hlt, by rw [List.take_succ_eq_append_getElem hlt, List.sum_append, hi.out.2]; simp⟩
      have hz : 0 ≤ z ∧ z ≤ 4294967296 * 400 := by
        have := sum_bound (l := l.take i) (fun n hn => hb.out n (List.mem_of_mem_take hn))
        have e : (l.take i).length ≤ 400 := by rw [List.length_take]; omega
        rw [hi.out.2]; omega
      have hbi := hb.out l[i] (List.getElem_mem hlt)
      clear hi
      generalize l[i] = v at *
      obtain ⟨z1, z2⟩ := hz
      obtain ⟨v1, v2⟩ := hbi
      go_wp2_with (first | ((first | with_reducible refine wp_region_ext2 (by kernel_rfl) (by kernel_rfl) ?_ | with_reducible refine wp_region_ext (by kernel_rfl) (by kernel_rfl) ?_); (repeat (first | go_big_quiet_step ((first | fail)) | quiet_step ((first | fail)))); refine wpQuiet_nil ?_; rintro _ ⟨yr, rfl⟩; have syr := Ext.size yr; (repeat (first | rw [World.size_alloc] at syr | rw [World.size_setCell] at syr | rw [World.size_drew] at syr)); have : B < yr.now.heap.size := (by omega); have : B ≤ yr.now.heap.size := (by omega); have : B < yr.now.heap.size + 1 + 1 := (by omega)))
      exact ⟨⟨i + 1, z + v, x, rfl, by simp, rfl, key⟩, by simp [intOf]; omega⟩
    · have hge : ¬ (i : Int) < l.length := by omega
      have eV : z = l.sum := by rw [hi.out.2, List.take_of_length_le (by omega)]
      clear hi
      subst eV
      go_wp2_with (first | ((first | with_reducible refine wp_region_ext2 (by kernel_rfl) (by kernel_rfl) ?_ | with_reducible refine wp_region_ext (by kernel_rfl) (by kernel_rfl) ?_); (repeat (first | go_big_quiet_step ((first | fail)) | quiet_step ((first | fail)))); refine wpQuiet_nil ?_; rintro _ ⟨yr, rfl⟩; have syr := Ext.size yr; (repeat (first | rw [World.size_alloc] at syr | rw [World.size_setCell] at syr | rw [World.size_drew] at syr))))
      go_returns
      refine ⟨rfl, ?_⟩
      repeat' (first | (with_reducible exact Below.refl _ _) | (with_reducible assumption) | (with_reducible refine Ext.below _ ?_ ?_) | (with_reducible refine Below.on ?_ (by with_reducible assumption) ?_) | (with_reducible refine Below.alloc ?_ ?_ _) | (with_reducible refine Below.drew ?_) | (with_reducible refine Below.setCell ?_ ?_ _) | (with_reducible exact Nat.le_refl _) | omega | (simp; done) | (simp [go_sem]; done) | (simp at *; omega))
theorem isCell_any (x : LandR) (at' : Int) (w : World) : Calls Tryd.prog 62 #[x.val, .int .i64 at'] w (Gives (.bool (decide (0 ≤ at' ∧ at' < x.pl.length))) w) := by
  unfold LandR.val
  go_enter Tryd.func62, Tryd.ntmps62
  go_wp2_with (first | ((first | with_reducible refine wp_region_ext2 (by kernel_rfl) (by kernel_rfl) ?_ | with_reducible refine wp_region_ext (by kernel_rfl) (by kernel_rfl) ?_); (repeat (first | go_big_quiet_step ((first | fail)) | quiet_step ((first | fail)))); refine wpQuiet_nil ?_; rintro _ ⟨yr, rfl⟩; have syr := Ext.size yr; (repeat (first | rw [World.size_alloc] at syr | rw [World.size_setCell] at syr | rw [World.size_drew] at syr))))
  all_goals go_returns
  all_goals refine ⟨ret_bool ?_, ?_⟩
  all_goals first
    | (rw [decide_eq_decide]; omega)
    | (simp; omega)
    | (symm; simp; omega)
    | ((repeat' (first | (with_reducible exact Below.refl _ _) | (with_reducible assumption) | (with_reducible refine Ext.below _ ?_ ?_) | (with_reducible refine Below.on ?_ (by with_reducible assumption) ?_) | (with_reducible refine Below.alloc ?_ ?_ _) | (with_reducible refine Below.drew ?_) | (with_reducible refine Below.setCell ?_ ?_ _) | (with_reducible exact Nat.le_refl _) | omega | (simp; done) | (simp [go_sem]; done) | (simp at *; omega))); done)
end Go.Proofs.YtfjieblihbnmjaaDoor

/- Contract of Ends, for valid air and a valid stone. Condition: the table of limits stands as it was laid. Contracts of lands: CheckLand, isCell, sum, people, run. Condition: the land stands in memory. -/
import Derived.Test.YtlmhbggigbmeaaaDoorBlE
namespace Go.Proofs.YtlmhbggigbmeaaaDoor
open Go.RowKit Go.Shelf
attribute [local go_sem] Option.isSome_some Ext.cell Ext.frozen Ext.lt Ext.le Ext.lt_add Ext.le_add Ext.ne Ext.ne' lt2 lt3 lt4 lt5 le2 le3 le4
attribute [local go_sem] RExt.cell RExt.frozen RExt.lt RExt.le RExt.lt_add RExt.le_add RExt.ne RExt.ne'
theorem air_ok {l : List V2} (h : airE l = 0) : l.length ≤ 32 ∧ ∀ v ∈ l, (1 ≤ v.x ∧ v.x ≤ 1000) ∧ 0 ≤ v.y ∧ v.y ≤ 1000 := by
  unfold airE at h
  split at h
  · cases h
  · exact ⟨by omega, lysE_ok.1 h⟩
theorem airE_ok {l : List V2} (h1 : l.length ≤ 32) (h2 : ∀ v ∈ l, (1 ≤ v.x ∧ v.x ≤ 1000) ∧ 0 ≤ v.y ∧ v.y ≤ 1000) : airE l = 0 := by
  unfold airE
  rw [if_neg (by omega)]
  exact lysE_ok.2 h2
/-- One step of a fall, as the list has it. -/
theorem fall_step {l : List V2} {s : StoneR} {i : Nat} {wv : Int} (_hi : i ≤ l.length) : (goOn l s i wv).1 = true → (goOn l s i wv).2.1 = i + 1 ∧ i < l.length ∧ fallI (holdsV s) (kOf s) (dOf s) (l.drop i) i wv = fallI (holdsV s) (kOf s) (dOf s) (l.drop (i + 1)) ((i + 1 : Nat) : Int) (goOn l s i wv).2.2 := by
  unfold goOn
  by_cases h : i < l.length
  · rw [dif_pos h, drop_at h]
    cases hb : burstB s l[i].y wv
    · intro _
      refine ⟨rfl, h, ?_⟩
      unfold burstB at hb
      rw [decide_eq_false_iff_not] at hb
      simp only [Bool.false_eq_true, if_false]
      rw [fallI, if_neg hb]
      simp
    · intro e; simp at e
  · rw [dif_neg h]; intro e; cases e
theorem fall_stop {l : List V2} {s : StoneR} {i : Nat} {wv : Int} (_hi : i ≤ l.length) : (goOn l s i wv).1 = false → (goOn l s i wv).2 = (i, wv) ∧ fallI (holdsV s) (kOf s) (dOf s) (l.drop i) i wv = ((i : Int), wv) := by
  unfold goOn
  by_cases h : i < l.length
  · rw [dif_pos h, drop_at h]
    cases hb : burstB s l[i].y wv
    · intro e; simp at e
    · intro _
      refine ⟨by simp, ?_⟩
      unfold burstB at hb
      rw [decide_eq_true_eq] at hb
      rw [fallI, if_pos hb]
  · rw [dif_neg h, drop_end h]; intro _; exact ⟨rfl, rfl⟩
theorem goOn_w {l : List V2} {s : StoneR} {i : Nat} {wv : Int} (hs : s.Ok) (hair : ∀ v ∈ l, (1 ≤ v.x ∧ v.x ≤ 1000) ∧ 0 ≤ v.y ∧ v.y ≤ 1000) (hw : 0 ≤ wv ∧ wv ≤ 64000000) : 0 ≤ (goOn l s i wv).2.2 ∧ (goOn l s i wv).2.2 ≤ 64000000 := by
  unfold goOn
  by_cases h : i < l.length
  · rw [dif_pos h]
    split
    · exact hw
    · obtain ⟨hx, hy⟩ := hair l[i] (List.getElem_mem h)
      have := stp_le hw.1 (k_bounds hs hx hy).2.2 (show 0 < dOf s by have := (d_bounds hs).2; omega)
      exact ⟨stp_nonneg _ _ _, by simp only; omega⟩
  · rw [dif_neg h]; exact hw
set_option maxRecDepth 100000 in
set_option maxHeartbeats 16000000 in
theorem Ends_ok (p : Option Addr) (cap : Nat) (l : List V2) (s : StoneR) (w : World) (hlim : LimAt w) (hP : VecsAt w p l) (ha : airE l = 0) (hs : s.Ok) :
    Calls Tryd.prog 23 #[.slice p l.length cap, s.val] w (Gives (.tuple #[.int .i64 (endOf l s).1, .int .i64 (massV s * (endOf l s).2), .int .i64 0]) w) := by
  obtain ⟨hl, hair⟩ := air_ok ha
  have ca := fun (W : World) (y : Below w.heap.size w W) => CheckAir_any p cap l W (hP.on y)
  rw [ha] at ca
  have cs := fun (W : World) (y : LimAt W) => CheckStone_any s W y
  rw [show stoneE s = 0 by unfold stoneE; rw [if_pos (stoneB_ok.2 hs)]] at cs
  have cf := fun W => fallOf_any p cap l.length s W hs
  have hw0 : 0 ≤ s.speed * s.speed ∧ s.speed * s.speed ≤ 64000000 := by
    have a := hs.speed
    have b := Int.mul_nonneg (show 0 ≤ s.speed by omega) (show 0 ≤ s.speed by omega)
    have c := Int.mul_le_mul a.2 a.2 (by omega) (by omega)
    omega
  unfold endOf
  obtain ⟨V, hV⟩ : ∃ V, fallI (holdsV s) (kOf s) (dOf s) l 0 (s.speed * s.speed) = V := ⟨_, rfl⟩
  rw [hV]
  replace hV := Go.Lib.hid hV
  have hmf : ∀ (fn : Fn) (first cap : Array Value) (w : World), (Instr.makeFunc fn first cap).run Tryd.prog w = .ok (.func fn first cap) w := fun _ _ _ _ => rfl
  unfold StoneR.val StoneR.vals at cs cf ⊢
  generalize hw2 : s.speed * s.speed = w2 at *
  clear hw2
  replace hair := Go.Lib.hid hair
  replace hs := Go.Lib.hid hs
  replace hP := Go.Lib.hid hP
  replace hw0 := Go.Lib.hid hw0
  clear ha
  go_enter Tryd.func23, Tryd.ntmps23
  go_upto_region 9 with (first | ((first | with_reducible refine wrx2 ?_ | with_reducible refine wrx ?_); (repeat (first | go_big_quiet_step ((first | (go_at_call 48; with_reducible exact Calls.ext (ca _ bcl)) | (go_at_call 47; with_reducible exact Calls.ext (cs _ (by repeat (first | exact hlim | (with_reducible refine LimAt.ext ?_ _) | (with_reducible refine LimAt.alloc ?_ _) | (with_reducible refine LimAt.drew ?_) | (with_reducible refine LimAt.rext ?_ (by omega) _) | (with_reducible refine LimAt.set ?_ (by omega) _))))) | (go_at_call 49; with_reducible exact Calls.ext (cf _)))) | quiet_step ((first | (go_at_call 48; with_reducible exact Calls.ext (ca _ bcl)) | (go_at_call 47; with_reducible exact Calls.ext (cs _ (by repeat (first | exact hlim | (with_reducible refine LimAt.ext ?_ _) | (with_reducible refine LimAt.alloc ?_ _) | (with_reducible refine LimAt.drew ?_) | (with_reducible refine LimAt.rext ?_ (by omega) _) | (with_reducible refine LimAt.set ?_ (by omega) _))))) | (go_at_call 49; with_reducible exact Calls.ext (cf _)))))); refine wpQuiet_nil ?_; rintro _ ⟨yr, rfl⟩; have syr := Ext.size yr; (repeat (first | rw [World.size_alloc] at syr | rw [World.size_setCell] at syr | rw [World.size_drew] at syr))) | (go_at_call 48; (first | with_reducible refine (Calls.giv2 (ca _ bcl)).mono ?_ | with_reducible refine (Calls.giv (ca _ bcl)).mono ?_); rintro _ _ ⟨y1, rfl, rfl⟩; have sy1 := Ext.size y1; (repeat (first | rw [World.size_alloc] at sy1 | rw [World.size_setCell] at sy1 | rw [World.size_drew] at sy1))) | (go_at_call 47; (first | with_reducible refine (Calls.giv2 (cs _ (by repeat (first | exact hlim | (with_reducible refine LimAt.ext ?_ _) | (with_reducible refine LimAt.alloc ?_ _) | (with_reducible refine LimAt.drew ?_) | (with_reducible refine LimAt.rext ?_ (by omega) _) | (with_reducible refine LimAt.set ?_ (by omega) _))))).mono ?_ | with_reducible refine (Calls.giv (cs _ (by repeat (first | exact hlim | (with_reducible refine LimAt.ext ?_ _) | (with_reducible refine LimAt.alloc ?_ _) | (with_reducible refine LimAt.drew ?_) | (with_reducible refine LimAt.rext ?_ (by omega) _) | (with_reducible refine LimAt.set ?_ (by omega) _))))).mono ?_); rintro _ _ ⟨y2, rfl, rfl⟩; have sy2 := Ext.size y2; (repeat (first | rw [World.size_alloc] at sy2 | rw [World.size_setCell] at sy2 | rw [World.size_drew] at sy2))) | (go_at_call 49; (first | with_reducible refine (Calls.giv2 (cf _)).mono ?_ | with_reducible refine (Calls.giv (cf _)).mono ?_); rintro _ _ ⟨y3, rfl, rfl⟩; have sy3 := Ext.size y3; (repeat (first | rw [World.size_alloc] at sy3 | rw [World.size_setCell] at sy3 | rw [World.size_drew] at sy3))))
  refine wp_named (fun W0 hW => ?_)
  have hB0 : Below w.heap.size w W0 := by rw [← hW]; repeat' (first | (with_reducible exact Below.refl _ _) | (with_reducible assumption) | (with_reducible refine Ext.below _ ?_ ?_) | (with_reducible refine Below.on ?_ (by with_reducible assumption) ?_) | (with_reducible refine Below.alloc ?_ ?_ _) | (with_reducible refine Below.drew ?_) | (with_reducible refine Below.setCell ?_ ?_ _) | (with_reducible exact Nat.le_refl _) | omega | (simp; done) | (simp [go_sem]; done) | (simp at *; omega))
  have hF0 : FallAt W0 y3.now.heap.size p cap l s 0 w2 := ⟨by rw [← hW]; exact heap_alloc_new _ _, hP.out.on hB0⟩
  have hs0 : W0.heap.size = y3.now.heap.size + 1 := by rw [← hW]; simp
  have hfb : w.heap.size ≤ y3.now.heap.size := by omega
  clear hW
  generalize y3.now.heap.size = FB at *
  have hlF : 0 < FB := Nat.lt_of_lt_of_le hlim.lt hfb
  have hpB : ∀ A o, l.length ≠ 0 → p = some ⟨A, o, none⟩ → A ≠ FB := by
    intro A o h0 hp
    obtain ⟨B, q, e, hB, -⟩ := hP.out 0 (by omega)
    rw [hp] at e
    injection e with e
    injection e with e1
    omega
  replace hpB := Go.Lib.hid hpB
  have hlim0 := Go.Lib.hid (hlim.on hB0)
  clear hlim
  go_loopw [25] (fun _ W => ∃ (i : Nat) (wv : Int) (x : RExt W0 FB), W = x.now ∧ Hid (i ≤ l.length ∧ FallAt x.now FB p cap l s i wv ∧ (0 ≤ wv ∧ wv ≤ 64000000) ∧ fallI (holdsV s) (kOf s) (dOf s) (l.drop i) i wv = V)) (fun _ W => l.length - (intOf ((W.cell? ⟨FB, 9, none⟩).getD (.int .i64 0))).toNat)
  case atStart => exact ⟨0, w2, ⟨W0, BelowX.refl _ _ _⟩, rfl, Go.Lib.hid ⟨Nat.zero_le _, hF0, hw0.out, by simpa using hV.out⟩⟩
  case round =>
    obtain ⟨i, wv, x, rfl, hi⟩ := hrel
    have xs := x.size
    have hlx := hlim0.out.rext (show 0 ≠ FB by omega) x
    have cg := goesOn_any FB p cap l s i wv x.now hlx hlF hi.out.2.1 hi.out.1 hl hs.out hair.out hi.out.2.2.1 hpB.out
    have hk9 : (x.now.cell? ⟨FB, 9, none⟩) = some (.int .i64 i) := (cell_of_row _ _ 9 _ _ _ hi.out.2.1.1).trans rfl
    have hgw := Go.Lib.hid (goOn_w (l := l) (s := s) (i := i) (wv := wv) hs.out hair.out hi.out.2.2.1)
    cases hg : (goOn l s i wv).1
    · have h2 := fall_stop hi.out.1 hg
      have hr : goOn l s i wv = (false, i, wv) := Prod.ext hg h2.1
      rw [hr] at cg
      have eV : V = ((i : Int), wv) := by rw [← hi.out.2.2.2]; exact h2.2
      have ce := fun (W : World) (y1 : LimAt W) (y2 : FallAt W FB p cap l s i wv) => energy_any FB p cap l s i wv W y1 y2 hs.out hi.out.2.2.1
      clear h2 hg hgw hk9 hr
      subst eV
      go_wp2_with (first | ((first | with_reducible refine wrx2 ?_ | with_reducible refine wrx ?_); (repeat (first | go_big_quiet_step ((first | fail)) | quiet_step ((first | fail)))); refine wpQuiet_nil ?_; rintro _ ⟨yr, rfl⟩; have syr := Ext.size yr; (repeat (first | rw [World.size_alloc] at syr | rw [World.size_setCell] at syr | rw [World.size_drew] at syr))) | (go_at_call 50; refine cg.mono ?_; rintro _ _ ⟨y9, rfl, rfl, hf9⟩))
      have hfi := hi.out.2.2.1
      clear hi
      have l9 : LimAt y9.now := hlx.rext (show 0 ≠ FB by omega) y9
      have s9 := y9.size
      have j9 : y9.now.cell? ⟨FB, 9, none⟩ = some (.int .i64 i) := (cell_of_row _ _ 9 _ _ _ hf9.1).trans rfl
      have hFB9 : FB < y9.now.heap.size := by omega
      have hB9 : Below w.heap.size w y9.now := hB0.trans (((x.grew.trans (y9.grew.mono xs)).mono (by omega)).below (by omega))
      have ce2 := fun (W : World) (y : Below y9.now.heap.size y9.now W) => ce W (l9.on y) ⟨(y.block FB hFB9).trans hf9.1, hf9.2.on y⟩
      clear ce cg
      replace hf9 := Go.Lib.hid hf9
      generalize y9.now = W9 at *
      go_wp2_with (first | ((first | with_reducible refine wrx2 ?_ | with_reducible refine wrx ?_); (repeat (first | go_big_quiet_step ((first | (go_at_call 51; with_reducible exact Calls.ext (ce2 _ bcl)))) | quiet_step ((first | (go_at_call 51; with_reducible exact Calls.ext (ce2 _ bcl)))))); refine wpQuiet_nil ?_; rintro _ ⟨yr, rfl⟩; have syr := Ext.size yr; (repeat (first | rw [World.size_alloc] at syr | rw [World.size_setCell] at syr | rw [World.size_drew] at syr)); have : FB < yr.now.heap.size := (by omega); have : FB ≤ yr.now.heap.size := (by omega); have : FB < yr.now.heap.size + 1 + 1 := (by omega)) | (go_at_call 51; (first | with_reducible refine (Calls.giv2 (ce2 _ bcl)).mono ?_ | with_reducible refine (Calls.giv (ce2 _ bcl)).mono ?_); rintro _ _ ⟨y1, rfl, rfl⟩; have sy1 := Ext.size y1; (repeat (first | rw [World.size_alloc] at sy1 | rw [World.size_setCell] at sy1 | rw [World.size_drew] at sy1)); have : FB < y1.now.heap.size := (by omega); have : FB ≤ y1.now.heap.size := (by omega); have : FB < y1.now.heap.size + 1 + 1 := (by omega)))
      go_returns
      refine ⟨rfl, ?_⟩
      repeat' (first | (with_reducible exact Below.refl _ _) | (with_reducible assumption) | (with_reducible refine Ext.below _ ?_ ?_) | (with_reducible refine Below.on ?_ (by with_reducible assumption) ?_) | (with_reducible refine Below.alloc ?_ ?_ _) | (with_reducible refine Below.drew ?_) | (with_reducible refine Below.setCell ?_ ?_ _) | (with_reducible exact Nat.le_refl _) | omega | (simp; done) | (simp [go_sem]; done) | (simp at *; omega))
    · have h2 := fall_step hi.out.1 hg
      have key : Hid (i + 1 ≤ l.length ∧ (0 ≤ (goOn l s i wv).2.2 ∧ (goOn l s i wv).2.2 ≤ 64000000) ∧ fallI (holdsV s) (kOf s) (dOf s) (l.drop (i + 1)) ((i + 1 : Nat) : Int) (goOn l s i wv).2.2 = V) := Go.Lib.hid ⟨h2.2.1, hgw.out, by rw [← h2.2.2]; exact hi.out.2.2.2⟩
      obtain ⟨wn, hwn⟩ : ∃ wn, (goOn l s i wv).2.2 = wn := ⟨_, rfl⟩
      have hr : goOn l s i wv = (true, i + 1, wn) := Prod.ext hg (Prod.ext h2.1 hwn)
      rw [hr] at cg
      rw [hwn] at key
      have hlt : i < l.length := h2.2.1
      clear h2 hg hgw hi hr hwn
      go_wp2_with (first | ((first | with_reducible refine wrx2 ?_ | with_reducible refine wrx ?_); (repeat (first | go_big_quiet_step ((first | fail)) | quiet_step ((first | fail)))); refine wpQuiet_nil ?_; rintro _ ⟨yr, rfl⟩; have syr := Ext.size yr; (repeat (first | rw [World.size_alloc] at syr | rw [World.size_setCell] at syr | rw [World.size_drew] at syr))) | (go_at_call 50; refine cg.mono ?_; rintro _ _ ⟨y9, rfl, rfl, hf9⟩))
      have hk10 : (y9.now.cell? ⟨FB, 9, none⟩) = some (.int .i64 ((i + 1 : Nat) : Int)) := (cell_of_row _ _ 9 _ _ _ hf9.1).trans rfl
      refine ⟨⟨i + 1, _, ⟨y9.now, x.grew.trans (y9.grew.mono xs)⟩, rfl, Go.Lib.hid ⟨key.out.1, hf9, key.out.2.1, key.out.2.2⟩⟩, ?_⟩
      rw [hk10, hk9]
      simp only [Option.getD_some, intOf]
      omega
end Go.Proofs.YtlmhbggigbmeaaaDoor
namespace Go.Proofs.YtlmhbggigbmeaaaDoor
open Go.RowKit Go.Shelf
attribute [local go_sem] Option.isSome_some Ext.cell Ext.frozen Ext.lt Ext.le Ext.lt_add Ext.le_add Ext.ne Ext.ne' lt2 lt3 lt4 lt5 le2 le3 le4
/-- Rows of numbers, of booleans. -/
def NumsAt (W : World) (p : Option Addr) (l : List Int) : Prop := ∀ j (h : j < l.length), ∃ B o, p = some ⟨B, o, none⟩ ∧ B < W.heap.size ∧ W.cell? ⟨B, o + j, none⟩ = some (.int .i64 l[j])
def BoolsAt (W : World) (p : Option Addr) (l : List Bool) : Prop := ∀ j (h : j < l.length), ∃ B o, p = some ⟨B, o, none⟩ ∧ B < W.heap.size ∧ W.cell? ⟨B, o + j, none⟩ = some (.bool l[j])
theorem NumsAt.on {W W' : World} {p : Option Addr} {l : List Int} (h : NumsAt W p l) (b : Below W.heap.size W W') : NumsAt W' p l := fun j hj => by
  obtain ⟨B, o, rfl, hB, h1⟩ := h j hj
  exact ⟨B, o, rfl, Nat.lt_of_lt_of_le hB b.size, (b.cell (p := ⟨B, o + j, none⟩) hB).trans h1⟩
theorem BoolsAt.on {W W' : World} {p : Option Addr} {l : List Bool} (h : BoolsAt W p l) (b : Below W.heap.size W W') : BoolsAt W' p l := fun j hj => by
  obtain ⟨B, o, rfl, hB, h1⟩ := h j hj
  exact ⟨B, o, rfl, Nat.lt_of_lt_of_le hB b.size, (b.cell (p := ⟨B, o + j, none⟩) hB).trans h1⟩
/-- A land: where its rows lie, and what is in them. -/
structure LandR where
  pp : Option Addr
  pc : Nat
  pl : List Int
  wp : Option Addr
  wc : Nat
  wl : List Bool
def LandR.val (x : LandR) : Value := .agg #[.slice x.pp x.pl.length x.pc, .slice x.wp x.wl.length x.wc]
structure LandR.At (x : LandR) (W : World) : Prop where
  nums : NumsAt W x.pp x.pl
  bools : BoolsAt W x.wp x.wl
  cap : x.pl.length ≤ x.pc
theorem LandR.At.on {x : LandR} {W W' : World} (h : x.At W) (b : Below W.heap.size W W') : x.At W' := ⟨h.nums.on b, h.bools.on b, h.cap⟩
def pplE : List Int → Int
  | [] => 0
  | n :: l => if 0 ≤ n ∧ n ≤ 4294967296 then pplE l else 2
def landE (x : LandR) : Int := if x.pl.length = 0 then 6 else if 400 < x.pl.length then 8 else if x.wl.length ≠ x.pl.length then 3 else pplE x.pl
structure LandR.Ok (x : LandR) : Prop where
  pos : 0 < x.pl.length
  le : x.pl.length ≤ 400
  len : x.wl.length = x.pl.length
  num : ∀ n ∈ x.pl, 0 ≤ n ∧ n ≤ 4294967296
theorem pplE_ok {l : List Int} : pplE l = 0 ↔ ∀ n ∈ l, 0 ≤ n ∧ n ≤ 4294967296 := by
  induction l with
  | nil => simp [pplE]
  | cons v l ih =>
    unfold pplE
    split
    · rename_i h; rw [ih]; simp [h]
    · rename_i h
      simp only [List.mem_cons, forall_eq_or_imp, h, false_and, iff_false]
      decide
theorem LandR.Ok.e {x : LandR} (h : x.Ok) : landE x = 0 := by
  unfold landE
  rw [if_neg (by have := h.pos; omega), if_neg (by have := h.le; omega), if_neg (by have := h.len; omega)]
  exact pplE_ok.2 h.num
theorem sum_bound {l : List Int} (h : ∀ n ∈ l, 0 ≤ n ∧ n ≤ 4294967296) : 0 ≤ l.sum ∧ l.sum ≤ 4294967296 * l.length := by
  induction l with
  | nil => simp
  | cons a l ih =>
    have h1 := ih (fun n hn => h n (by simp [hn]))
    have h2 := h a (by simp)
    simp only [List.sum_cons, List.length_cons]
    omega
set_option maxHeartbeats 4000000 in
theorem sum_any (p : Option Addr) (c : Nat) (l : List Int) (w : World) (hP : NumsAt w p l) (hn : l.length ≤ 400) (hb : ∀ n ∈ l, 0 ≤ n ∧ n ≤ 4294967296) : Calls Tryd.prog 100 #[.slice p l.length c] w (Gives (.int .i64 l.sum) w) := by
  have hP := Go.Lib.hid hP
  have hb := Go.Lib.hid hb
  go_enter Tryd.func100, Tryd.ntmps100
  go_wp2_with (first | ((first | with_reducible refine wrx2 ?_ | with_reducible refine wrx ?_); (repeat (first | go_big_quiet_step ((first | fail)) | quiet_step ((first | fail)))); refine wpQuiet_nil ?_; rintro _ ⟨yr, rfl⟩; have syr := Ext.size yr; (repeat (first | rw [World.size_alloc] at syr | rw [World.size_setCell] at syr | rw [World.size_drew] at syr))))
  go_loopw [3, 8] (fun t s W => ∃ (i : Nat) (z : Int) (x : Ext w), t = .int .i64 z ∧ s = .int .i64 i ∧ W = x.now ∧ Hid (i ≤ l.length ∧ z = (l.take i).sum)) (fun _ s _ => l.length - (intOf s).toNat)
  case atStart => exact ⟨0, 0, ⟨w, Below.refl _ _⟩, rfl, rfl, rfl, Go.Lib.hid ⟨Nat.zero_le _, by simp⟩⟩
  case round =>
    obtain ⟨i, z, x, rfl, rfl, rfl, hi⟩ := hrel
    have xs := x.size
    by_cases hlt : i < l.length
    · have hlt2 : (i : Int) < l.length := by omega
      obtain ⟨B, o, rfl, hB, c1⟩ := hP.out i hlt
      have key : Hid (i + 1 ≤ l.length ∧ z + l[i] = (l.take (i + 1)).sum) := Go.Lib.hid ⟨hlt, by rw [List.take_succ_eq_append_getElem hlt, List.sum_append, hi.out.2]; simp⟩
      have hz : 0 ≤ z ∧ z ≤ 4294967296 * 400 := by
        have := sum_bound (l := l.take i) (fun n hn => hb.out n (List.mem_of_mem_take hn))
        have e : (l.take i).length ≤ 400 := by rw [List.length_take]; omega
        rw [hi.out.2]; omega
      have hbi := hb.out l[i] (List.getElem_mem hlt)
      clear hi
      generalize l[i] = v at *
      obtain ⟨z1, z2⟩ := hz
      obtain ⟨v1, v2⟩ := hbi
      go_wp2_with (first | ((first | with_reducible refine wrx2 ?_ | with_reducible refine wrx ?_); (repeat (first | go_big_quiet_step ((first | fail)) | quiet_step ((first | fail)))); refine wpQuiet_nil ?_; rintro _ ⟨yr, rfl⟩; have syr := Ext.size yr; (repeat (first | rw [World.size_alloc] at syr | rw [World.size_setCell] at syr | rw [World.size_drew] at syr)); have : B < yr.now.heap.size := (by omega); have : B ≤ yr.now.heap.size := (by omega); have : B < yr.now.heap.size + 1 + 1 := (by omega)))
      exact ⟨⟨i + 1, z + v, x, rfl, by simp, rfl, key⟩, by simp [intOf]; omega⟩
    · have hge : ¬ (i : Int) < l.length := by omega
      have eV : z = l.sum := by rw [hi.out.2, List.take_of_length_le (by omega)]
      clear hi
      subst eV
      go_wp2_with (first | ((first | with_reducible refine wrx2 ?_ | with_reducible refine wrx ?_); (repeat (first | go_big_quiet_step ((first | fail)) | quiet_step ((first | fail)))); refine wpQuiet_nil ?_; rintro _ ⟨yr, rfl⟩; have syr := Ext.size yr; (repeat (first | rw [World.size_alloc] at syr | rw [World.size_setCell] at syr | rw [World.size_drew] at syr))))
      go_returns
      refine ⟨rfl, ?_⟩
      repeat' (first | (with_reducible exact Below.refl _ _) | (with_reducible assumption) | (with_reducible refine Ext.below _ ?_ ?_) | (with_reducible refine Below.on ?_ (by with_reducible assumption) ?_) | (with_reducible refine Below.alloc ?_ ?_ _) | (with_reducible refine Below.drew ?_) | (with_reducible refine Below.setCell ?_ ?_ _) | (with_reducible exact Nat.le_refl _) | omega | (simp; done) | (simp [go_sem]; done) | (simp at *; omega))
theorem isCell_any (x : LandR) (at' : Int) (w : World) : Calls Tryd.prog 59 #[x.val, .int .i64 at'] w (Gives (.bool (decide (0 ≤ at' ∧ at' < x.pl.length))) w) := by
  unfold LandR.val
  go_enter Tryd.func59, Tryd.ntmps59
  go_wp2_with (first | ((first | with_reducible refine wrx2 ?_ | with_reducible refine wrx ?_); (repeat (first | go_big_quiet_step ((first | fail)) | quiet_step ((first | fail)))); refine wpQuiet_nil ?_; rintro _ ⟨yr, rfl⟩; have syr := Ext.size yr; (repeat (first | rw [World.size_alloc] at syr | rw [World.size_setCell] at syr | rw [World.size_drew] at syr))))
  all_goals go_returns
  all_goals refine ⟨ret_bool ?_, ?_⟩
  all_goals first
    | (rw [decide_eq_decide]; omega)
    | (simp; omega)
    | (symm; simp; omega)
    | ((repeat' (first | (with_reducible exact Below.refl _ _) | (with_reducible assumption) | (with_reducible refine Ext.below _ ?_ ?_) | (with_reducible refine Below.on ?_ (by with_reducible assumption) ?_) | (with_reducible refine Below.alloc ?_ ?_ _) | (with_reducible refine Below.drew ?_) | (with_reducible refine Below.setCell ?_ ?_ _) | (with_reducible exact Nat.le_refl _) | omega | (simp; done) | (simp [go_sem]; done) | (simp at *; omega))); done)
end Go.Proofs.YtlmhbggigbmeaaaDoor

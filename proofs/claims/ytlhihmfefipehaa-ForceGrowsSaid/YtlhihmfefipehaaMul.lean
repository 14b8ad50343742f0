/- Contracts of what package span computes with the ends of two spans. No condition but the operation's own contract. -/
import Derived.Test.YtlhihmfefipehaaArea
import Derived.Test.YtlhihmfefipehaaPlaneG
namespace Go.Proofs.Ytlhihmfefipehaa
open Go.RowKit Go.Shelf
attribute [local go_sem] Ext.cell Ext.frozen Ext.lt Ext.le Ext.lt_add Ext.le_add Ext.ne Ext.ne' lt2 lt3 lt4 lt5 le2 le3 le4
attribute [local go_sem] ring_at0 ring_at1 ring_at2 ring_at3 -- 130
theorem number_ext (n : Int) (w : World) : Calls Try.prog 102 #[.agg #[.int .i64 (whi n), .int .u64 (wlo n)]] w fun e w' => ∃ (x : Ext w) (q : Int), e = .returned (.tuple #[.int .i64 q, .bool (numB n)]) ∧ w' = x.now ∧ (numB n = true → q = n) :=
  (number_any n w).mono fun _ _ ⟨q, ⟨he, hb⟩, hq⟩ => ⟨⟨_, hb⟩, q, he, rfl, hq⟩ -- 104
/-- The corners of two spans, in their order; the least and the greatest of what comes of the first of them. -/
def corX (al ah : Int) (k : Nat) : Int := if k = 0 ∨ k = 3 then al else ah
def corY (bl bh : Int) (k : Nat) : Int := if k = 0 ∨ k = 1 then bl else bh
def dmin (d : Int → Int → Int) (al ah bl bh : Int) : Nat → Int
  | 0 => d al bl
  | k + 1 => if d (corX al ah k) (corY bl bh k) < dmin d al ah bl bh k then d (corX al ah k) (corY bl bh k) else dmin d al ah bl bh k
def dmax (d : Int → Int → Int) (al ah bl bh : Int) : Nat → Int
  | 0 => d al bl
  | k + 1 => if dmax d al ah bl bh k < d (corX al ah k) (corY bl bh k) then d (corX al ah k) (corY bl bh k) else dmax d al ah bl bh k
theorem dmin_lt {d : Int → Int → Int} {al ah bl bh : Int} {k : Nat} (h : d (corX al ah k) (corY bl bh k) < dmin d al ah bl bh k) : dmin d al ah bl bh (k + 1) = d (corX al ah k) (corY bl bh k) := by rw [dmin, if_pos h]
theorem dmin_ge {d : Int → Int → Int} {al ah bl bh : Int} {k : Nat} (h : ¬ d (corX al ah k) (corY bl bh k) < dmin d al ah bl bh k) : dmin d al ah bl bh (k + 1) = dmin d al ah bl bh k := by rw [dmin, if_neg h]
theorem dmax_lt {d : Int → Int → Int} {al ah bl bh : Int} {k : Nat} (h : dmax d al ah bl bh k < d (corX al ah k) (corY bl bh k)) : dmax d al ah bl bh (k + 1) = d (corX al ah k) (corY bl bh k) := by rw [dmax, if_pos h]
theorem dmax_ge {d : Int → Int → Int} {al ah bl bh : Int} {k : Nat} (h : ¬ dmax d al ah bl bh k < d (corX al ah k) (corY bl bh k)) : dmax d al ah bl bh (k + 1) = dmax d al ah bl bh k := by rw [dmax, if_neg h]
theorem corX_or (al ah : Int) (k : Nat) : corX al ah k = al ∨ corX al ah k = ah := by unfold corX; split <;> simp
theorem corY_or (bl bh : Int) (k : Nat) : corY bl bh k = bl ∨ corY bl bh k = bh := by unfold corY; split <;> simp
theorem ring_atk (al ah bl bh : Int) (k : Nat) (hk : k < 4) (w : World) : (Instr.index 130 (.agg #[.int .i64 al, .int .i64 bl, .int .i64 ah, .int .i64 bl, .int .i64 ah, .int .i64 bh, .int .i64 al, .int .i64 bh]) (.int .i64 k)).run Try.prog w = .ok (.agg #[.int .i64 (corX al ah k), .int .i64 (corY bl bh k)]) w := by
  rcases (show k = 0 ∨ k = 1 ∨ k = 2 ∨ k = 3 by omega) with rfl | rfl | rfl | rfl
  · exact ring_at0 _ _ _ _ _ _ _ _ w
  · exact ring_at1 _ _ _ _ _ _ _ _ w
  · exact ring_at2 _ _ _ _ _ _ _ _ w
  · exact ring_at3 _ _ _ _ _ _ _ _ w
theorem cmp_neg (m n : Int) : cmpw (whi m) (wlo m) (whi n) (wlo n) < 0 ↔ m < n := by rw [cmpw_sgn]; unfold sgn; split <;> (try split) <;> omega
theorem cmp_pos (m n : Int) : 0 < cmpw (whi m) (wlo m) (whi n) (wlo n) ↔ n < m := by rw [cmpw_sgn]; unfold sgn; split <;> (try split) <;> omega
/-- The result of combine: its error; its ends. -/
def cmbE (d u : Int → Int → Int) (al ah bl bh : Int) : Int :=
  if chkB al ah bl bh = 0 then (if numB (dmin d al ah bl bh 4) && numB (dmax u al ah bl bh 4) then 0 else 14) else chkB al ah bl bh
def cmbL (d u : Int → Int → Int) (al ah bl bh : Int) : Int := if cmbE d u al ah bl bh = 0 then dmin d al ah bl bh 4 else 0
def cmbH (d u : Int → Int → Int) (al ah bl bh : Int) : Int := if cmbE d u al ah bl bh = 0 then dmax u al ah bl bh 4 else 0
set_option maxHeartbeats 2000000 in
theorem combine_any (K : FuncId) (c : Array Value) (d u : Int → Int → Int) (al ah bl bh : Int) (w : World)
    (hK : ∀ (args : Array Value) (W : World), (callFunc K args).run Try.prog W = .ok (.enter K args) W)
    (hop : ∀ (W : World) (p q : Int), Below w.heap.size w W → (p = al ∨ p = ah) → (q = bl ∨ q = bh) → chkB al ah bl bh = 0 →
      Calls Try.prog K (#[.int .i64 p, .int .i64 q] ++ c) W (Gives (.tuple #[.agg #[.int .i64 (whi (d p q)), .int .u64 (wlo (d p q))], .agg #[.int .i64 (whi (u p q)), .int .u64 (wlo (u p q))]]) W)) :
    Calls Try.prog 80 #[.agg #[.int .i64 al, .int .i64 ah], .agg #[.int .i64 bl, .int .i64 bh], .func (.func K) #[] c] w
      (Gives (.tuple #[.agg #[.int .i64 (cmbL d u al ah bl bh), .int .i64 (cmbH d u al ah bl bh)], .int .i64 (cmbE d u al ah bl bh)]) w) := by
  by_cases h : chkB al ah bl bh = 0
  · have F := Go.Lib.hid hop
    clear hop
    go_enter Try.func80, Try.ntmps80
    go_wp2_with (first | ((first | with_reducible refine wrx2 ?_ | with_reducible refine wrx ?_); (repeat (first | go_big_quiet_step ((first | (go_at_call 89; with_reducible exact Calls.ext (checkBoth_any _ _ _ _ _)) | (go_at_call 90; with_reducible exact Calls.ext (ring_any _ _ _ _ _)) | (with_reducible exact Calls.ext (F.out _ _ _ bcl (.inl rfl) (.inl rfl) h)))) | quiet_step ((first | (go_at_call 89; with_reducible exact Calls.ext (checkBoth_any _ _ _ _ _)) | (go_at_call 90; with_reducible exact Calls.ext (ring_any _ _ _ _ _)) | (with_reducible exact Calls.ext (F.out _ _ _ bcl (.inl rfl) (.inl rfl) h)))))); refine wpQuiet_nil ?_; rintro _ ⟨yr, rfl⟩; have syr := Ext.size yr; (repeat (first | rw [World.size_alloc] at syr | rw [World.size_setCell] at syr | rw [World.size_drew] at syr))) | (go_at_call 89; (first | with_reducible refine (Calls.giv2 (checkBoth_any _ _ _ _ _)).mono ?_ | with_reducible refine (Calls.giv (checkBoth_any _ _ _ _ _)).mono ?_); rintro _ _ ⟨y1, rfl, rfl⟩; have sy1 := Ext.size y1; (repeat (first | rw [World.size_alloc] at sy1 | rw [World.size_setCell] at sy1 | rw [World.size_drew] at sy1))) | (go_at_call 90; (first | with_reducible refine (Calls.giv2 (ring_any _ _ _ _ _)).mono ?_ | with_reducible refine (Calls.giv (ring_any _ _ _ _ _)).mono ?_); rintro _ _ ⟨y2, rfl, rfl⟩; have sy2 := Ext.size y2; (repeat (first | rw [World.size_alloc] at sy2 | rw [World.size_setCell] at sy2 | rw [World.size_drew] at sy2))) | ((first | with_reducible refine (Calls.giv2 (F.out _ _ _ bcl (.inl rfl) (.inl rfl) h)).mono ?_ | with_reducible refine (Calls.giv (F.out _ _ _ bcl (.inl rfl) (.inl rfl) h)).mono ?_); rintro _ _ ⟨y3, rfl, rfl⟩; have sy3 := Ext.size y3; (repeat (first | rw [World.size_alloc] at sy3 | rw [World.size_setCell] at sy3 | rw [World.size_drew] at sy3))))
    have L1 : w.heap.size + 1 + 1 + 1 ≤ y3.now.heap.size := by simpa using y3.size
    have L2 : y3.now.heap.size + 1 + 1 ≤ y2.now.heap.size := by simpa using y2.size
    have a1 : y2.now.cell? ⟨y3.now.heap.size, 0, none⟩ = some (.int .i64 (whi (d al bl))) := by rw [y2.cell (by simp only [World.size_alloc]; omega)]; simp [go_sem]
    have a2 : y2.now.cell? ⟨y3.now.heap.size, 1, none⟩ = some (.int .u64 (wlo (d al bl))) := by rw [y2.cell (by simp only [World.size_alloc]; omega)]; simp [go_sem]
    have a3 : y2.now.cell? ⟨y3.now.heap.size + 1, 0, none⟩ = some (.int .i64 (whi (u al bl))) := by rw [y2.cell (by simp only [World.size_alloc]; omega)]; simp [go_sem]
    have a4 : y2.now.cell? ⟨y3.now.heap.size + 1, 1, none⟩ = some (.int .u64 (wlo (u al bl))) := by rw [y2.cell (by simp only [World.size_alloc]; omega)]; simp [go_sem]
    have b1 : y2.now.frozen? ⟨y3.now.heap.size, 0, none⟩ = false := by rw [y2.frozen (by simp only [World.size_alloc]; omega)]; simp [go_sem]
    have b2 : y2.now.frozen? ⟨y3.now.heap.size, 1, none⟩ = false := by rw [y2.frozen (by simp only [World.size_alloc]; omega)]; simp [go_sem]
    have b3 : y2.now.frozen? ⟨y3.now.heap.size + 1, 0, none⟩ = false := by rw [y2.frozen (by simp only [World.size_alloc]; omega)]; simp [go_sem]
    have b4 : y2.now.frozen? ⟨y3.now.heap.size + 1, 1, none⟩ = false := by rw [y2.frozen (by simp only [World.size_alloc]; omega)]; simp [go_sem]
    have g1 : y3.now.cell? ⟨w.heap.size + 1 + 1, 0, none⟩ = some (.int .i64 0) := by rw [y3.cell (by simp only [World.size_alloc]; omega)]; simp [go_sem]
    have g2 : y3.now.cell? ⟨w.heap.size + 1 + 1, 1, none⟩ = some (.int .i64 0) := by rw [y3.cell (by simp only [World.size_alloc]; omega)]; simp [go_sem]
    have g3 : y3.now.frozen? ⟨w.heap.size + 1 + 1, 0, none⟩ = false := by rw [y3.frozen (by simp only [World.size_alloc]; omega)]; simp [go_sem]
    have g4 : y3.now.frozen? ⟨w.heap.size + 1 + 1, 1, none⟩ = false := by rw [y3.frozen (by simp only [World.size_alloc]; omega)]; simp [go_sem]
    have B0 : Below y3.now.heap.size y3.now y2.now := by repeat' (first | (with_reducible exact Below.refl _ _) | (with_reducible assumption) | (with_reducible refine Ext.below _ ?_ ?_) | (with_reducible refine Below.on ?_ (by with_reducible assumption) ?_) | (with_reducible refine Below.alloc ?_ ?_ _) | (with_reducible refine Below.drew ?_) | (with_reducible refine Below.setCell ?_ ?_ _) | (with_reducible exact Nat.le_refl _) | omega | (simp; done) | (simp [go_sem]; done) | (simp at *; omega))
    have B1 : Below w.heap.size w y3.now := by repeat' (first | (with_reducible exact Below.refl _ _) | (with_reducible assumption) | (with_reducible refine Ext.below _ ?_ ?_) | (with_reducible refine Below.on ?_ (by with_reducible assumption) ?_) | (with_reducible refine Below.alloc ?_ ?_ _) | (with_reducible refine Below.drew ?_) | (with_reducible refine Below.setCell ?_ ?_ _) | (with_reducible exact Nat.le_refl _) | omega | (simp; done) | (simp [go_sem]; done) | (simp at *; omega))
    obtain ⟨Y, hY⟩ : ∃ Y, y2.now = Y := ⟨_, rfl⟩
    rw [hY] at L2 a1 a2 a3 a4 b1 b2 b3 b4 B0
    rw [hY]
    clear hY sy2 y2
    obtain ⟨L, hL⟩ : ∃ L, y3.now.heap.size = L := ⟨_, rfl⟩
    rw [hL] at L1 L2 a1 a2 a3 a4 b1 b2 b3 b4 B0
    rw [hL]
    obtain ⟨Z, hZ⟩ : ∃ Z, y3.now = Z := ⟨_, rfl⟩
    rw [hZ] at g1 g2 g3 g4 B0 B1 hL
    clear hZ sy3 y3 sy1 y1
    have HL := Go.Lib.hid hL
    clear hL
    go_loopw [39] (fun s wr => ∃ k : Nat, k ≤ 4 ∧ s = .int .i64 k ∧ Below L Z wr ∧ L + 1 + 1 ≤ wr.heap.size ∧
        (wr.cell? ⟨L, 0, none⟩ = some (.int .i64 (whi (dmin d al ah bl bh k))) ∧ wr.cell? ⟨L, 1, none⟩ = some (.int .u64 (wlo (dmin d al ah bl bh k)))) ∧
        (wr.cell? ⟨L + 1, 0, none⟩ = some (.int .i64 (whi (dmax u al ah bl bh k))) ∧ wr.cell? ⟨L + 1, 1, none⟩ = some (.int .u64 (wlo (dmax u al ah bl bh k)))) ∧
        (wr.frozen? ⟨L, 0, none⟩ = false ∧ wr.frozen? ⟨L, 1, none⟩ = false ∧ wr.frozen? ⟨L + 1, 0, none⟩ = false ∧ wr.frozen? ⟨L + 1, 1, none⟩ = false)) (fun s _ => 4 - (intOf s).toNat)
    case atStart => exact ⟨0, by omega, rfl, B0, L2, ⟨a1, a2⟩, ⟨a3, a4⟩, b1, b2, b3, b4⟩
    case round =>
      clear a1 a2 a3 a4 b1 b2 b3 b4 B0 L2
      obtain ⟨k, hk, rfl, hB, hS, ⟨c1, c2⟩, ⟨c3, c4⟩, f1, f2, f3, f4⟩ := hrel
      have q1 : L < wr.heap.size := by omega
      have q2 : L + 1 < wr.heap.size := by omega
      have q3 : L ≤ wr.heap.size := by omega
      have q4 : L + 1 ≤ wr.heap.size := by omega
      have hBW : Below w.heap.size w wr := B1.trans (hB.mono (by omega))
      by_cases hlt : k < 4
      · clear g1 g2 g3 g4
        have ik := ring_atk al ah bl bh k hlt
        have o1 := corX_or al ah k
        have o2 := corY_or bl bh k
        have O := Go.Lib.hid (And.intro o1 o2)
        clear o1 o2
        by_cases t1 : d (corX al ah k) (corY bl bh k) < dmin d al ah bl bh k <;> by_cases t2 : dmax u al ah bl bh k < u (corX al ah k) (corY bl bh k)
        · have r1 := (cmp_neg _ _).2 t1
          have r2 := (cmp_pos _ _).2 t2
          have E := Go.Lib.hid (And.intro (dmin_lt t1) (dmax_lt t2))
          clear t1 t2
          go_wp2_with (first | ((first | with_reducible refine wrx2 ?_ | with_reducible refine wrx ?_); (repeat (first | go_big_quiet_step ((first | (go_at_call 101; with_reducible exact Calls.ext (compare_any _ _ _ _ _)) | (with_reducible exact Calls.ext (F.out _ _ _ bcl O.out.1 O.out.2 h)))) | quiet_step ((first | (go_at_call 101; with_reducible exact Calls.ext (compare_any _ _ _ _ _)) | (with_reducible exact Calls.ext (F.out _ _ _ bcl O.out.1 O.out.2 h)))))); refine wpQuiet_nil ?_; rintro _ ⟨yr, rfl⟩; have syr := Ext.size yr; (repeat (first | rw [World.size_alloc] at syr | rw [World.size_setCell] at syr | rw [World.size_drew] at syr)); have : L < yr.now.heap.size := (by omega); have : L ≤ yr.now.heap.size := (by omega); have : L < yr.now.heap.size + 1 + 1 := (by omega); have : L + 1 < yr.now.heap.size := (by omega); have : L + 1 ≤ yr.now.heap.size := (by omega); have : L + 1 < yr.now.heap.size + 1 + 1 := (by omega)) | (go_at_call 101; (first | with_reducible refine (Calls.giv2 (compare_any _ _ _ _ _)).mono ?_ | with_reducible refine (Calls.giv (compare_any _ _ _ _ _)).mono ?_); rintro _ _ ⟨y1, rfl, rfl⟩; have sy1 := Ext.size y1; (repeat (first | rw [World.size_alloc] at sy1 | rw [World.size_setCell] at sy1 | rw [World.size_drew] at sy1)); have : L < y1.now.heap.size := (by omega); have : L ≤ y1.now.heap.size := (by omega); have : L < y1.now.heap.size + 1 + 1 := (by omega); have : L + 1 < y1.now.heap.size := (by omega); have : L + 1 ≤ y1.now.heap.size := (by omega); have : L + 1 < y1.now.heap.size + 1 + 1 := (by omega)) | ((first | with_reducible refine (Calls.giv2 (F.out _ _ _ bcl O.out.1 O.out.2 h)).mono ?_ | with_reducible refine (Calls.giv (F.out _ _ _ bcl O.out.1 O.out.2 h)).mono ?_); rintro _ _ ⟨y2, rfl, rfl⟩; have sy2 := Ext.size y2; (repeat (first | rw [World.size_alloc] at sy2 | rw [World.size_setCell] at sy2 | rw [World.size_drew] at sy2)); have : L < y2.now.heap.size := (by omega); have : L ≤ y2.now.heap.size := (by omega); have : L < y2.now.heap.size + 1 + 1 := (by omega); have : L + 1 < y2.now.heap.size := (by omega); have : L + 1 ≤ y2.now.heap.size := (by omega); have : L + 1 < y2.now.heap.size + 1 + 1 := (by omega)))
          have e1 := E.out.1
          have e2 := E.out.2
          refine ⟨⟨k + 1, by omega, by simp, ?_, ?_, ⟨?_, ?_⟩, ⟨?_, ?_⟩, ?_, ?_, ?_, ?_⟩, by simp [intOf]; omega⟩
          · repeat' (first | (with_reducible exact Below.refl _ _) | (with_reducible assumption) | (with_reducible refine Ext.below _ ?_ ?_) | (with_reducible refine Below.on ?_ (by with_reducible assumption) ?_) | (with_reducible refine Below.alloc ?_ ?_ _) | (with_reducible refine Below.drew ?_) | (with_reducible refine Below.setCell ?_ ?_ _) | (with_reducible exact Nat.le_refl _) | omega | (simp; done) | (simp [go_sem]; done) | (simp at *; omega))
          · (try simp); omega
          all_goals (first | rw [e1] | rw [e2] | skip)
          all_goals (first | (simp [go_sem, *]; done) | (simp [go_sem, *]; exact World.cell?_setCell_same' _ _ _ (by simp [go_sem, *])))
        · have r1 := (cmp_neg _ _).2 t1
          have r2 := fun hh => t2 ((cmp_pos (u (corX al ah k) (corY bl bh k)) (dmax u al ah bl bh k)).1 hh)
          have r2 := Int.not_lt.1 r2
          have E := Go.Lib.hid (And.intro (dmin_lt t1) (dmax_ge t2))
          clear t1 t2
          go_wp2_with (first | ((first | with_reducible refine wrx2 ?_ | with_reducible refine wrx ?_); (repeat (first | go_big_quiet_step ((first | (go_at_call 101; with_reducible exact Calls.ext (compare_any _ _ _ _ _)) | (with_reducible exact Calls.ext (F.out _ _ _ bcl O.out.1 O.out.2 h)))) | quiet_step ((first | (go_at_call 101; with_reducible exact Calls.ext (compare_any _ _ _ _ _)) | (with_reducible exact Calls.ext (F.out _ _ _ bcl O.out.1 O.out.2 h)))))); refine wpQuiet_nil ?_; rintro _ ⟨yr, rfl⟩; have syr := Ext.size yr; (repeat (first | rw [World.size_alloc] at syr | rw [World.size_setCell] at syr | rw [World.size_drew] at syr)); have : L < yr.now.heap.size := (by omega); have : L ≤ yr.now.heap.size := (by omega); have : L < yr.now.heap.size + 1 + 1 := (by omega); have : L + 1 < yr.now.heap.size := (by omega); have : L + 1 ≤ yr.now.heap.size := (by omega); have : L + 1 < yr.now.heap.size + 1 + 1 := (by omega)) | (go_at_call 101; (first | with_reducible refine (Calls.giv2 (compare_any _ _ _ _ _)).mono ?_ | with_reducible refine (Calls.giv (compare_any _ _ _ _ _)).mono ?_); rintro _ _ ⟨y1, rfl, rfl⟩; have sy1 := Ext.size y1; (repeat (first | rw [World.size_alloc] at sy1 | rw [World.size_setCell] at sy1 | rw [World.size_drew] at sy1)); have : L < y1.now.heap.size := (by omega); have : L ≤ y1.now.heap.size := (by omega); have : L < y1.now.heap.size + 1 + 1 := (by omega); have : L + 1 < y1.now.heap.size := (by omega); have : L + 1 ≤ y1.now.heap.size := (by omega); have : L + 1 < y1.now.heap.size + 1 + 1 := (by omega)) | ((first | with_reducible refine (Calls.giv2 (F.out _ _ _ bcl O.out.1 O.out.2 h)).mono ?_ | with_reducible refine (Calls.giv (F.out _ _ _ bcl O.out.1 O.out.2 h)).mono ?_); rintro _ _ ⟨y2, rfl, rfl⟩; have sy2 := Ext.size y2; (repeat (first | rw [World.size_alloc] at sy2 | rw [World.size_setCell] at sy2 | rw [World.size_drew] at sy2)); have : L < y2.now.heap.size := (by omega); have : L ≤ y2.now.heap.size := (by omega); have : L < y2.now.heap.size + 1 + 1 := (by omega); have : L + 1 < y2.now.heap.size := (by omega); have : L + 1 ≤ y2.now.heap.size := (by omega); have : L + 1 < y2.now.heap.size + 1 + 1 := (by omega)))
          have e1 := E.out.1
          have e2 := E.out.2
          refine ⟨⟨k + 1, by omega, by simp, ?_, ?_, ⟨?_, ?_⟩, ⟨?_, ?_⟩, ?_, ?_, ?_, ?_⟩, by simp [intOf]; omega⟩
          · repeat' (first | (with_reducible exact Below.refl _ _) | (with_reducible assumption) | (with_reducible refine Ext.below _ ?_ ?_) | (with_reducible refine Below.on ?_ (by with_reducible assumption) ?_) | (with_reducible refine Below.alloc ?_ ?_ _) | (with_reducible refine Below.drew ?_) | (with_reducible refine Below.setCell ?_ ?_ _) | (with_reducible exact Nat.le_refl _) | omega | (simp; done) | (simp [go_sem]; done) | (simp at *; omega))
          · (try simp); omega
          all_goals (first | rw [e1] | rw [e2] | skip)
          all_goals (first | (simp [go_sem, *]; done) | (simp [go_sem, *]; exact World.cell?_setCell_same' _ _ _ (by simp [go_sem, *])))
        · have r1 := fun hh => t1 ((cmp_neg (d (corX al ah k) (corY bl bh k)) (dmin d al ah bl bh k)).1 hh)
          have r1 := Int.not_lt.1 r1
          have r2 := (cmp_pos _ _).2 t2
          have E := Go.Lib.hid (And.intro (dmin_ge t1) (dmax_lt t2))
          clear t1 t2
          go_wp2_with (first | ((first | with_reducible refine wrx2 ?_ | with_reducible refine wrx ?_); (repeat (first | go_big_quiet_step ((first | (go_at_call 101; with_reducible exact Calls.ext (compare_any _ _ _ _ _)) | (with_reducible exact Calls.ext (F.out _ _ _ bcl O.out.1 O.out.2 h)))) | quiet_step ((first | (go_at_call 101; with_reducible exact Calls.ext (compare_any _ _ _ _ _)) | (with_reducible exact Calls.ext (F.out _ _ _ bcl O.out.1 O.out.2 h)))))); refine wpQuiet_nil ?_; rintro _ ⟨yr, rfl⟩; have syr := Ext.size yr; (repeat (first | rw [World.size_alloc] at syr | rw [World.size_setCell] at syr | rw [World.size_drew] at syr)); have : L < yr.now.heap.size := (by omega); have : L ≤ yr.now.heap.size := (by omega); have : L < yr.now.heap.size + 1 + 1 := (by omega); have : L + 1 < yr.now.heap.size := (by omega); have : L + 1 ≤ yr.now.heap.size := (by omega); have : L + 1 < yr.now.heap.size + 1 + 1 := (by omega)) | (go_at_call 101; (first | with_reducible refine (Calls.giv2 (compare_any _ _ _ _ _)).mono ?_ | with_reducible refine (Calls.giv (compare_any _ _ _ _ _)).mono ?_); rintro _ _ ⟨y1, rfl, rfl⟩; have sy1 := Ext.size y1; (repeat (first | rw [World.size_alloc] at sy1 | rw [World.size_setCell] at sy1 | rw [World.size_drew] at sy1)); have : L < y1.now.heap.size := (by omega); have : L ≤ y1.now.heap.size := (by omega); have : L < y1.now.heap.size + 1 + 1 := (by omega); have : L + 1 < y1.now.heap.size := (by omega); have : L + 1 ≤ y1.now.heap.size := (by omega); have : L + 1 < y1.now.heap.size + 1 + 1 := (by omega)) | ((first | with_reducible refine (Calls.giv2 (F.out _ _ _ bcl O.out.1 O.out.2 h)).mono ?_ | with_reducible refine (Calls.giv (F.out _ _ _ bcl O.out.1 O.out.2 h)).mono ?_); rintro _ _ ⟨y2, rfl, rfl⟩; have sy2 := Ext.size y2; (repeat (first | rw [World.size_alloc] at sy2 | rw [World.size_setCell] at sy2 | rw [World.size_drew] at sy2)); have : L < y2.now.heap.size := (by omega); have : L ≤ y2.now.heap.size := (by omega); have : L < y2.now.heap.size + 1 + 1 := (by omega); have : L + 1 < y2.now.heap.size := (by omega); have : L + 1 ≤ y2.now.heap.size := (by omega); have : L + 1 < y2.now.heap.size + 1 + 1 := (by omega)))
          have e1 := E.out.1
          have e2 := E.out.2
          refine ⟨⟨k + 1, by omega, by simp, ?_, ?_, ⟨?_, ?_⟩, ⟨?_, ?_⟩, ?_, ?_, ?_, ?_⟩, by simp [intOf]; omega⟩
          · repeat' (first | (with_reducible exact Below.refl _ _) | (with_reducible assumption) | (with_reducible refine Ext.below _ ?_ ?_) | (with_reducible refine Below.on ?_ (by with_reducible assumption) ?_) | (with_reducible refine Below.alloc ?_ ?_ _) | (with_reducible refine Below.drew ?_) | (with_reducible refine Below.setCell ?_ ?_ _) | (with_reducible exact Nat.le_refl _) | omega | (simp; done) | (simp [go_sem]; done) | (simp at *; omega))
          · (try simp); omega
          all_goals (first | rw [e1] | rw [e2] | skip)
          all_goals (first | (simp [go_sem, *]; done) | (simp [go_sem, *]; exact World.cell?_setCell_same' _ _ _ (by simp [go_sem, *])))
        · have r1 := fun hh => t1 ((cmp_neg (d (corX al ah k) (corY bl bh k)) (dmin d al ah bl bh k)).1 hh)
          have r1 := Int.not_lt.1 r1
          have r2 := fun hh => t2 ((cmp_pos (u (corX al ah k) (corY bl bh k)) (dmax u al ah bl bh k)).1 hh)
          have r2 := Int.not_lt.1 r2
          have E := Go.Lib.hid (And.intro (dmin_ge t1) (dmax_ge t2))
          clear t1 t2
          go_wp2_with (first | ((first | with_reducible refine wrx2 ?_ | with_reducible refine wrx ?_); (repeat (first | go_big_quiet_step ((first | (go_at_call 101; with_reducible exact Calls.ext (compare_any _ _ _ _ _)) | (with_reducible exact Calls.ext (F.out _ _ _ bcl O.out.1 O.out.2 h)))) | quiet_step ((first | (go_at_call 101; with_reducible exact Calls.ext (compare_any _ _ _ _ _)) | (with_reducible exact Calls.ext (F.out _ _ _ bcl O.out.1 O.out.2 h)))))); refine wpQuiet_nil ?_; rintro _ ⟨yr, rfl⟩; have syr := Ext.size yr; (repeat (first | rw [World.size_alloc] at syr | rw [World.size_setCell] at syr | rw [World.size_drew] at syr)); have : L < yr.now.heap.size := (by omega); have : L ≤ yr.now.heap.size := (by omega); have : L < yr.now.heap.size + 1 + 1 := (by omega); have : L + 1 < yr.now.heap.size := (by omega); have : L + 1 ≤ yr.now.heap.size := (by omega); have : L + 1 < yr.now.heap.size + 1 + 1 := (by omega)) | (go_at_call 101; (first | with_reducible refine (Calls.giv2 (compare_any _ _ _ _ _)).mono ?_ | with_reducible refine (Calls.giv (compare_any _ _ _ _ _)).mono ?_); rintro _ _ ⟨y1, rfl, rfl⟩; have sy1 := Ext.size y1; (repeat (first | rw [World.size_alloc] at sy1 | rw [World.size_setCell] at sy1 | rw [World.size_drew] at sy1)); have : L < y1.now.heap.size := (by omega); have : L ≤ y1.now.heap.size := (by omega); have : L < y1.now.heap.size + 1 + 1 := (by omega); have : L + 1 < y1.now.heap.size := (by omega); have : L + 1 ≤ y1.now.heap.size := (by omega); have : L + 1 < y1.now.heap.size + 1 + 1 := (by omega)) | ((first | with_reducible refine (Calls.giv2 (F.out _ _ _ bcl O.out.1 O.out.2 h)).mono ?_ | with_reducible refine (Calls.giv (F.out _ _ _ bcl O.out.1 O.out.2 h)).mono ?_); rintro _ _ ⟨y2, rfl, rfl⟩; have sy2 := Ext.size y2; (repeat (first | rw [World.size_alloc] at sy2 | rw [World.size_setCell] at sy2 | rw [World.size_drew] at sy2)); have : L < y2.now.heap.size := (by omega); have : L ≤ y2.now.heap.size := (by omega); have : L < y2.now.heap.size + 1 + 1 := (by omega); have : L + 1 < y2.now.heap.size := (by omega); have : L + 1 ≤ y2.now.heap.size := (by omega); have : L + 1 < y2.now.heap.size + 1 + 1 := (by omega)))
          have e1 := E.out.1
          have e2 := E.out.2
          refine ⟨⟨k + 1, by omega, by simp, ?_, ?_, ⟨?_, ?_⟩, ⟨?_, ?_⟩, ?_, ?_, ?_, ?_⟩, by simp [intOf]; omega⟩
          · repeat' (first | (with_reducible exact Below.refl _ _) | (with_reducible assumption) | (with_reducible refine Ext.below _ ?_ ?_) | (with_reducible refine Below.on ?_ (by with_reducible assumption) ?_) | (with_reducible refine Below.alloc ?_ ?_ _) | (with_reducible refine Below.drew ?_) | (with_reducible refine Below.setCell ?_ ?_ _) | (with_reducible exact Nat.le_refl _) | omega | (simp; done) | (simp [go_sem]; done) | (simp at *; omega))
          · (try simp); omega
          all_goals (first | rw [e1] | rw [e2] | skip)
          all_goals (first | (simp [go_sem, *]; done) | (simp [go_sem, *]; exact World.cell?_setCell_same' _ _ _ (by simp [go_sem, *])))
      · obtain rfl : k = 4 := by omega
        have k1 := hB.cell (p := ⟨w.heap.size + 1 + 1, 0, none⟩) (by simp; omega)
        have k2 := hB.cell (p := ⟨w.heap.size + 1 + 1, 1, none⟩) (by simp; omega)
        have k3 := hB.frozen (p := ⟨w.heap.size + 1 + 1, 0, none⟩) (by simp; omega)
        have k4 := hB.frozen (p := ⟨w.heap.size + 1 + 1, 1, none⟩) (by simp; omega)
        rw [g1] at k1
        rw [g2] at k2
        rw [g3] at k3
        rw [g4] at k4
        have q5 : w.heap.size + 1 + 1 < wr.heap.size := by omega
        have q6 : w.heap.size + 1 + 1 ≤ wr.heap.size := by omega
        clear g1 g2 g3 g4 F hK q3 q4 hS
        have e1 : cmbE d u al ah bl bh = if numB (dmin d al ah bl bh 4) && numB (dmax u al ah bl bh 4) then 0 else 14 := by unfold cmbE; rw [if_pos h]
        have E1 := Go.Lib.hid e1
        clear e1 h
        cases v1 : numB (dmin d al ah bl bh 4) <;> cases v2 : numB (dmax u al ah bl bh 4)
        · have e1 := E1.out
          rw [v1, v2] at e1
          simp at e1
          have E2 := Go.Lib.hid e1
          clear e1 E1
          go_wp2_with fail
          with_reducible refine Calls.mono (number_ext _ _) ?_
          rintro _ _ ⟨x1, n1, rfl, rfl, hn1⟩
          have sx1 := Ext.size x1
          have z1 : w.heap.size + 1 + 1 < x1.now.heap.size := by omega
          have z2 : L + 1 < x1.now.heap.size := by omega
          go_wp2_with fail
          with_reducible refine Calls.mono (number_ext _ _) ?_
          rintro _ _ ⟨x2, n2, rfl, rfl, hn2⟩
          have sx2 := Ext.size x2
          have z3 : w.heap.size + 1 + 1 < x2.now.heap.size := by omega
          have l1 := (x2.cell (o := 0) z1).trans ((x1.cell (o := 0) q5).trans k1)
          have l2 := (x2.cell (o := 1) z1).trans ((x1.cell (o := 1) q5).trans k2)
          have l3 := (x2.frozen (o := 0) z1).trans ((x1.frozen (o := 0) q5).trans k3)
          have l4 := (x2.frozen (o := 1) z1).trans ((x1.frozen (o := 1) q5).trans k4)
          clear hn1 hn2 k1 k2 k3 k4 c1 c2 c3 c4 f1 f2 f3 f4
          go_wp2_with fail
          refine bodyPost_ret (v := .tuple #[.agg #[.int .i64 0, .int .i64 0], .int .i64 14]) (by simp [results, Try.results80, go_sem, l1, l2]) rfl ?_
          refine ⟨?_, ?_⟩
          · unfold cmbL cmbH
            rw [E2.out]
            simp
          · repeat' (first | (with_reducible exact Below.refl _ _) | (with_reducible assumption) | (with_reducible refine Ext.below _ ?_ ?_) | (with_reducible refine Below.on ?_ (by with_reducible assumption) ?_) | (with_reducible refine Below.alloc ?_ ?_ _) | (with_reducible refine Below.drew ?_) | (with_reducible refine Below.setCell ?_ ?_ _) | (with_reducible exact Nat.le_refl _) | omega | (simp; done) | (simp [go_sem]; done) | (simp at *; omega))
        · have e1 := E1.out
          rw [v1, v2] at e1
          simp at e1
          have E2 := Go.Lib.hid e1
          clear e1 E1
          go_wp2_with fail
          with_reducible refine Calls.mono (number_ext _ _) ?_
          rintro _ _ ⟨x1, n1, rfl, rfl, hn1⟩
          have sx1 := Ext.size x1
          have z1 : w.heap.size + 1 + 1 < x1.now.heap.size := by omega
          have z2 : L + 1 < x1.now.heap.size := by omega
          go_wp2_with fail
          with_reducible refine Calls.mono (number_ext _ _) ?_
          rintro _ _ ⟨x2, n2, rfl, rfl, hn2⟩
          have sx2 := Ext.size x2
          have m2 := hn2 v2
          subst m2
          have z3 : w.heap.size + 1 + 1 < x2.now.heap.size := by omega
          have l1 := (x2.cell (o := 0) z1).trans ((x1.cell (o := 0) q5).trans k1)
          have l2 := (x2.cell (o := 1) z1).trans ((x1.cell (o := 1) q5).trans k2)
          have l3 := (x2.frozen (o := 0) z1).trans ((x1.frozen (o := 0) q5).trans k3)
          have l4 := (x2.frozen (o := 1) z1).trans ((x1.frozen (o := 1) q5).trans k4)
          clear hn1 hn2 k1 k2 k3 k4 c1 c2 c3 c4 f1 f2 f3 f4
          go_wp2_with fail
          refine bodyPost_ret (v := .tuple #[.agg #[.int .i64 0, .int .i64 0], .int .i64 14]) (by simp [results, Try.results80, go_sem, l1, l2]) rfl ?_
          refine ⟨?_, ?_⟩
          · unfold cmbL cmbH
            rw [E2.out]
            simp
          · repeat' (first | (with_reducible exact Below.refl _ _) | (with_reducible assumption) | (with_reducible refine Ext.below _ ?_ ?_) | (with_reducible refine Below.on ?_ (by with_reducible assumption) ?_) | (with_reducible refine Below.alloc ?_ ?_ _) | (with_reducible refine Below.drew ?_) | (with_reducible refine Below.setCell ?_ ?_ _) | (with_reducible exact Nat.le_refl _) | omega | (simp; done) | (simp [go_sem]; done) | (simp at *; omega))
        · have e1 := E1.out
          rw [v1, v2] at e1
          simp at e1
          have E2 := Go.Lib.hid e1
          clear e1 E1
          go_wp2_with fail
          with_reducible refine Calls.mono (number_ext _ _) ?_
          rintro _ _ ⟨x1, n1, rfl, rfl, hn1⟩
          have sx1 := Ext.size x1
          have m1 := hn1 v1
          subst m1
          have z1 : w.heap.size + 1 + 1 < x1.now.heap.size := by omega
          have z2 : L + 1 < x1.now.heap.size := by omega
          go_wp2_with fail
          with_reducible refine Calls.mono (number_ext _ _) ?_
          rintro _ _ ⟨x2, n2, rfl, rfl, hn2⟩
          have sx2 := Ext.size x2
          have z3 : w.heap.size + 1 + 1 < x2.now.heap.size := by omega
          have l1 := (x2.cell (o := 0) z1).trans ((x1.cell (o := 0) q5).trans k1)
          have l2 := (x2.cell (o := 1) z1).trans ((x1.cell (o := 1) q5).trans k2)
          have l3 := (x2.frozen (o := 0) z1).trans ((x1.frozen (o := 0) q5).trans k3)
          have l4 := (x2.frozen (o := 1) z1).trans ((x1.frozen (o := 1) q5).trans k4)
          clear hn1 hn2 k1 k2 k3 k4 c1 c2 c3 c4 f1 f2 f3 f4
          go_wp2_with fail
          refine bodyPost_ret (v := .tuple #[.agg #[.int .i64 0, .int .i64 0], .int .i64 14]) (by simp [results, Try.results80, go_sem, l1, l2]) rfl ?_
          refine ⟨?_, ?_⟩
          · unfold cmbL cmbH
            rw [E2.out]
            simp
          · repeat' (first | (with_reducible exact Below.refl _ _) | (with_reducible assumption) | (with_reducible refine Ext.below _ ?_ ?_) | (with_reducible refine Below.on ?_ (by with_reducible assumption) ?_) | (with_reducible refine Below.alloc ?_ ?_ _) | (with_reducible refine Below.drew ?_) | (with_reducible refine Below.setCell ?_ ?_ _) | (with_reducible exact Nat.le_refl _) | omega | (simp; done) | (simp [go_sem]; done) | (simp at *; omega))
        · have e1 := E1.out
          rw [v1, v2] at e1
          simp at e1
          have E2 := Go.Lib.hid e1
          clear e1 E1
          go_wp2_with fail
          with_reducible refine Calls.mono (number_ext _ _) ?_
          rintro _ _ ⟨x1, n1, rfl, rfl, hn1⟩
          have sx1 := Ext.size x1
          have m1 := hn1 v1
          subst m1
          have z1 : w.heap.size + 1 + 1 < x1.now.heap.size := by omega
          have z2 : L + 1 < x1.now.heap.size := by omega
          go_wp2_with fail
          with_reducible refine Calls.mono (number_ext _ _) ?_
          rintro _ _ ⟨x2, n2, rfl, rfl, hn2⟩
          have sx2 := Ext.size x2
          have m2 := hn2 v2
          subst m2
          have z3 : w.heap.size + 1 + 1 < x2.now.heap.size := by omega
          have l1 := (x2.cell (o := 0) z1).trans ((x1.cell (o := 0) q5).trans k1)
          have l2 := (x2.cell (o := 1) z1).trans ((x1.cell (o := 1) q5).trans k2)
          have l3 := (x2.frozen (o := 0) z1).trans ((x1.frozen (o := 0) q5).trans k3)
          have l4 := (x2.frozen (o := 1) z1).trans ((x1.frozen (o := 1) q5).trans k4)
          clear hn1 hn2 k1 k2 k3 k4 c1 c2 c3 c4 f1 f2 f3 f4
          go_wp2_with fail
          refine bodyPost_ret (v := .tuple #[.agg #[.int .i64 (dmin d al ah bl bh 4), .int .i64 (dmax u al ah bl bh 4)], .int .i64 0]) (by simp [results, Try.results80, go_sem, l1, l2]) rfl ?_
          refine ⟨?_, ?_⟩
          · unfold cmbL cmbH
            rw [E2.out]
            simp
          · repeat' (first | (with_reducible exact Below.refl _ _) | (with_reducible assumption) | (with_reducible refine Ext.below _ ?_ ?_) | (with_reducible refine Below.on ?_ (by with_reducible assumption) ?_) | (with_reducible refine Below.alloc ?_ ?_ _) | (with_reducible refine Below.drew ?_) | (with_reducible refine Below.setCell ?_ ?_ _) | (with_reducible exact Nat.le_refl _) | omega | (simp; done) | (simp [go_sem]; done) | (simp at *; omega))
  · have e1 : cmbE d u al ah bl bh = chkB al ah bl bh := by unfold cmbE; rw [if_neg h]
    have e2 : cmbL d u al ah bl bh = 0 := by unfold cmbL; rw [e1, if_neg h]
    have e3 : cmbH d u al ah bl bh = 0 := by unfold cmbH; rw [e1, if_neg h]
    rw [e1, e2, e3]
    clear hop e1 e2 e3
    have h' : (chkB al ah bl bh != 0) = true := by simpa using h
    go_enter Try.func80, Try.ntmps80
    go_wp2_with (first | ((first | with_reducible refine wrx2 ?_ | with_reducible refine wrx ?_); (repeat (first | go_big_quiet_step ((first | (go_at_call 89; with_reducible exact Calls.ext (checkBoth_any _ _ _ _ _)))) | quiet_step ((first | (go_at_call 89; with_reducible exact Calls.ext (checkBoth_any _ _ _ _ _)))))); refine wpQuiet_nil ?_; rintro _ ⟨yr, rfl⟩; have syr := Ext.size yr; (repeat (first | rw [World.size_alloc] at syr | rw [World.size_setCell] at syr | rw [World.size_drew] at syr))) | (go_at_call 89; (first | with_reducible refine (Calls.giv2 (checkBoth_any _ _ _ _ _)).mono ?_ | with_reducible refine (Calls.giv (checkBoth_any _ _ _ _ _)).mono ?_); rintro _ _ ⟨y1, rfl, rfl⟩; have sy1 := Ext.size y1; (repeat (first | rw [World.size_alloc] at sy1 | rw [World.size_setCell] at sy1 | rw [World.size_drew] at sy1))))
    go_returns
    refine ⟨rfl, ?_⟩
    repeat' (first | (with_reducible exact Below.refl _ _) | (with_reducible assumption) | (with_reducible refine Ext.below _ ?_ ?_) | (with_reducible refine Below.on ?_ (by with_reducible assumption) ?_) | (with_reducible refine Below.alloc ?_ ?_ _) | (with_reducible refine Below.drew ?_) | (with_reducible refine Below.setCell ?_ ?_ _) | (with_reducible exact Nat.le_refl _) | omega | (simp; done) | (simp [go_sem]; done) | (simp at *; omega))
end Go.Proofs.Ytlhihmfefipehaa

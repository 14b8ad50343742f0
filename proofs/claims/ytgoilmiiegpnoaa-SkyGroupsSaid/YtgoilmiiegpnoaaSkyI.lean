/- Contracts of biasOf, coneOf, wordOf: what a sight says, or its error. Condition: the cells that are read, and valid catalogs. -/
import Derived.Test.YtgoilmiiegpnoaaSkyH
namespace Go.Proofs.Ytgoilmiiegpnoaa
open Go.RowKit Go.Shelf
attribute [local go_sem] Option.isSome_some Ext.cell Ext.frozen Ext.lt Ext.le Ext.lt_add Ext.le_add Ext.ne Ext.ne' lt2 lt3 lt4 lt5 le2 le3 le4
structure SightR where
  kind : Int
  st : Int
  cat : Int
  tick : Int
  dir : V2
  err : Int
  lo : Int
  hi : Int
def SightR.val (x : SightR) : Value := .agg #[.int .i64 x.kind, .int .i64 x.st, .int .i64 x.cat, .int .i64 x.tick, .int .i64 x.dir.x, .int .i64 x.dir.y, .int .i64 x.err, .int .i64 x.lo, .int .i64 x.hi]
def biasL (id : Int) : List CatR → V2 × Bool
  | [] => (⟨0, 0⟩, false)
  | c :: l => if c.ver = id then (⟨c.lo, c.hi⟩, true) else biasL id l
theorem biasL_in {id : Int} {l : List CatR} : ∀ {z : Int}, ctsE z l = 0 → vwinB (biasL id l).1 500000 = true := by
  induction l with
  | nil => intro z _; rfl
  | cons c l ih =>
    intro z h
    rw [ctsE] at h
    by_cases h1 : c.ver ≤ z
    · rw [if_pos h1] at h; cases h
    · rw [if_neg h1] at h
      by_cases h2 : (winB c.lo 500000 && winB c.hi 500000 && decide (c.lo ≤ c.hi)) = true
      · rw [if_pos h2] at h
        rw [biasL]
        by_cases h3 : c.ver = id
        · rw [if_pos h3]
          simp only [Bool.and_eq_true] at h2
          unfold vwinB; simp only [h2.1.1, h2.1.2, Bool.and_self]
        · rw [if_neg h3]; exact ih h
      · rw [if_neg h2] at h; cases h
theorem catalogsE_zero {l : List CatR} (h : catalogsE l = 0) : l.length ≤ 8 ∧ ctsE 0 l = 0 := by
  unfold catalogsE at h
  by_cases h1 : 8 < l.length
  · rw [if_pos h1] at h; cases h
  · rw [if_neg h1] at h; exact ⟨by omega, h⟩
set_option maxHeartbeats 4000000 in
theorem biasOf_any (p : Option Addr) (c : Nat) (l : List CatR) (id : Int) (w : World) (hP : CatsAt w p l) (hn : l.length ≤ 8) :
    Calls Try.prog 80 #[.slice p l.length c, .int .i64 id] w (Gives (pairV (biasL id l)) w) := by
  obtain ⟨V, hV⟩ : ∃ V, biasL id l = V := ⟨_, rfl⟩
  rw [hV]
  have hV := Go.Lib.hid hV
  have hP := Go.Lib.hid hP
  unfold pairV
  go_enter Try.func80, Try.ntmps80
  go_wp2_with (first | ((first | with_reducible refine wp_region_ext2 (by kernel_rfl) (by kernel_rfl) ?_ | with_reducible refine wp_region_ext (by kernel_rfl) (by kernel_rfl) ?_); (repeat (first | go_big_quiet_step ((first | fail)) | quiet_step ((first | fail)))); refine wpQuiet_nil ?_; rintro _ ⟨yr, rfl⟩; have syr := Ext.size yr; (repeat (first | rw [World.size_alloc] at syr | rw [World.size_setCell] at syr | rw [World.size_drew] at syr))))
  refine wp_named (fun W0 hW => ?_)
  have hBw : Below w.heap.size w W0 := by rw [← hW]; repeat' (first | (with_reducible exact Below.refl _ _) | (with_reducible assumption) | (with_reducible refine Ext.below _ ?_ ?_) | (with_reducible refine Below.on ?_ (by with_reducible assumption) ?_) | (with_reducible refine Below.alloc ?_ ?_ _) | (with_reducible refine Below.drew ?_) | (with_reducible refine Below.setCell ?_ ?_ _) | (with_reducible exact Nat.le_refl _) | omega | (simp; done) | (simp [go_sem]; done) | (simp at *; omega))
  have hs : W0.heap.size = w.heap.size + 1 := by rw [← hW]; simp
  have hs0 : w.heap.size < W0.heap.size := by omega
  have d0 : W0.cell? ⟨w.heap.size, 0, none⟩ = some (.int .i64 0) := by rw [← hW]; simp [go_sem]
  have d1 : W0.cell? ⟨w.heap.size, 1, none⟩ = some (.int .i64 0) := by rw [← hW]; simp [go_sem]
  have f0 : W0.frozen? ⟨w.heap.size, 0, none⟩ = false := by rw [← hW]; simp [go_sem]
  have f1 : W0.frozen? ⟨w.heap.size, 1, none⟩ = false := by rw [← hW]; simp [go_sem]
  have hP := Go.Lib.hid (hP.out.on hBw)
  clear hW hs
  go_loopw [10] (fun s W => ∃ (i : Nat) (x : Ext W0), s = .int .i64 i ∧ W = x.now ∧ Hid (i ≤ l.length ∧ biasL id (l.drop i) = V)) (fun s _ => l.length - (intOf s).toNat)
  case atStart => exact ⟨0, ⟨W0, Below.refl _ _⟩, rfl, rfl, Go.Lib.hid ⟨Nat.zero_le _, by simpa using hV.out⟩⟩
  case round =>
    obtain ⟨i, x, rfl, rfl, hi⟩ := hrel
    have xs := x.size
    have hbx := x.below hBw (by omega)
    have d0 := (x.cell hs0).trans d0
    have d1 := (x.cell hs0).trans d1
    have f0 := (x.frozen hs0).trans f0
    have f1 := (x.frozen hs0).trans f1
    have : w.heap.size < (x.now).heap.size := (by omega); have : w.heap.size < (x.now).heap.size + 1 := (by omega); have : w.heap.size < (x.now).heap.size + 1 + 1 := (by omega); have : w.heap.size ≠ (x.now).heap.size := (by omega); have : w.heap.size ≠ (x.now).heap.size + 1 := (by omega)
    by_cases hlt : i < l.length
    · have hlt2 : (i : Int) < l.length := by omega
      obtain ⟨B', o', rfl, hB', e0, e1, e2⟩ := hP.out i hlt
      have : B' < (x.now).heap.size := (by omega); have : B' < (x.now).heap.size + 1 := (by omega); have : B' < (x.now).heap.size + 1 + 1 := (by omega); have : B' ≠ (x.now).heap.size := (by omega); have : B' ≠ (x.now).heap.size + 1 := (by omega)
      have hE := hi.out.2
      rw [drop_at hlt, biasL] at hE
      by_cases hid : l[i].ver = id
      · rw [if_pos hid] at hE
        clear hi hV
        subst hE
        generalize l[i].ver = t0 at *
        generalize l[i].lo = t1 at *
        generalize l[i].hi = t2 at *
        subst hid
        go_wp2_with (first | ((first | with_reducible refine wp_region_ext2 (by kernel_rfl) (by kernel_rfl) ?_ | with_reducible refine wp_region_ext (by kernel_rfl) (by kernel_rfl) ?_); (repeat (first | go_big_quiet_step ((first | fail)) | quiet_step ((first | fail)))); refine wpQuiet_nil ?_; rintro _ ⟨yr, rfl⟩; have syr := Ext.size yr; (repeat (first | rw [World.size_alloc] at syr | rw [World.size_setCell] at syr | rw [World.size_drew] at syr)); have : B' < yr.now.heap.size := (by omega); have : B' ≤ yr.now.heap.size := (by omega); have : B' < yr.now.heap.size + 1 + 1 := (by omega)))
        refine bodyPost_ret (v := .tuple #[.agg #[.int .i64 t1, .int .i64 t2], .bool true]) (by simp (maxDischargeDepth := 9) [results, Try.results80, go_sem, *]) rfl ?_
        refine ⟨rfl, ?_⟩
        repeat' (first | (with_reducible exact Below.refl _ _) | (with_reducible assumption) | (with_reducible refine Ext.below _ ?_ ?_) | (with_reducible refine Below.on ?_ (by with_reducible assumption) ?_) | (with_reducible refine Below.alloc ?_ ?_ _) | (with_reducible refine Below.drew ?_) | (with_reducible refine Below.setCell ?_ ?_ _) | (with_reducible exact Nat.le_refl _) | omega | (simp; done) | (simp [go_sem]; done) | (simp at *; omega))
      · have key : Hid (i + 1 ≤ l.length ∧ biasL id (l.drop (i + 1)) = V) := Go.Lib.hid ⟨hlt, by rw [if_neg hid] at hE; exact hE⟩
        clear hE hi
        generalize l[i].ver = t0 at *
        generalize l[i].lo = t1 at *
        generalize l[i].hi = t2 at *
        go_wp2_with (first | ((first | with_reducible refine wp_region_ext2 (by kernel_rfl) (by kernel_rfl) ?_ | with_reducible refine wp_region_ext (by kernel_rfl) (by kernel_rfl) ?_); (repeat (first | go_big_quiet_step ((first | fail)) | quiet_step ((first | fail)))); refine wpQuiet_nil ?_; rintro _ ⟨yr, rfl⟩; have syr := Ext.size yr; (repeat (first | rw [World.size_alloc] at syr | rw [World.size_setCell] at syr | rw [World.size_drew] at syr)); have : B' < yr.now.heap.size := (by omega); have : B' ≤ yr.now.heap.size := (by omega); have : B' < yr.now.heap.size + 1 + 1 := (by omega)))
        exact ⟨⟨i + 1, ⟨_, x.grew.alloc x.size _⟩, by simp, rfl, key⟩, by simp [intOf]; omega⟩
    · have hge : ¬ (i : Int) < l.length := by omega
      have hE := hi.out.2
      rw [drop_end hlt, biasL] at hE
      clear hi hV
      subst hE
      go_wp2_with (first | ((first | with_reducible refine wp_region_ext2 (by kernel_rfl) (by kernel_rfl) ?_ | with_reducible refine wp_region_ext (by kernel_rfl) (by kernel_rfl) ?_); (repeat (first | go_big_quiet_step ((first | fail)) | quiet_step ((first | fail)))); refine wpQuiet_nil ?_; rintro _ ⟨yr, rfl⟩; have syr := Ext.size yr; (repeat (first | rw [World.size_alloc] at syr | rw [World.size_setCell] at syr | rw [World.size_drew] at syr))))
      refine bodyPost_ret (v := .tuple #[.agg #[.int .i64 0, .int .i64 0], .bool false]) (by simp (maxDischargeDepth := 9) [results, Try.results80, go_sem, *]) rfl ?_
      refine ⟨rfl, ?_⟩
      repeat' (first | (with_reducible exact Below.refl _ _) | (with_reducible assumption) | (with_reducible refine Ext.below _ ?_ ?_) | (with_reducible refine Below.on ?_ (by with_reducible assumption) ?_) | (with_reducible refine Below.alloc ?_ ?_ _) | (with_reducible refine Below.drew ?_) | (with_reducible refine Below.setCell ?_ ?_ _) | (with_reducible exact Nat.le_refl _) | omega | (simp; done) | (simp [go_sem]; done) | (simp at *; omega))
/-- The cone of a sight, or its error. -/
def coneR (cats : List CatR) (x : SightR) : Except Int ConeR :=
  if (biasL x.cat cats).2 = true then (if vwinB x.dir 4096 = false ∨ (x.dir.x = 0 ∧ x.dir.y = 0) ∨ x.err < 0 ∨ 500000 < x.err then .error 2 else .ok ⟨x.dir.x, x.dir.y, (biasL x.cat cats).1.x - x.err, (biasL x.cat cats).1.y + x.err⟩) else .error 7
def coneRes : Except Int ConeR → Value
  | .ok c => .tuple #[.agg #[.int .i64 c.dx, .int .i64 c.dy, .int .i64 c.lo, .int .i64 c.hi], .int .i64 0]
  | .error e => .tuple #[.agg #[.int .i64 0, .int .i64 0, .int .i64 0, .int .i64 0], .int .i64 e]
theorem coneR_err {cats : List CatR} {x : SightR} {e : Int} (h : coneR cats x = .error e) : e ≠ 0 := by
  unfold coneR at h
  repeat' split at h
  all_goals first | (cases h; done) | (injection h; omega)
theorem coneR_ok {cats : List CatR} {x : SightR} {c : ConeR} (hc : catalogsE cats = 0) (h : coneR cats x = .ok c) : c.Ok := by
  obtain ⟨⟨b1, b2⟩, b3, b4⟩ := vwinB_out (biasL_in (id := x.cat) (catalogsE_zero hc).2)
  unfold coneR at h
  repeat' split at h
  all_goals try (cases h; done)
  rename_i h1 h2
  cases h
  have hd : vwinB x.dir 4096 = true := by
    cases hv : vwinB x.dir 4096
    · exact absurd (Or.inl hv) h2
    · rfl
  obtain ⟨⟨a1, a2⟩, a3, a4⟩ := vwinB_out hd
  constructor <;> (simp only; omega)
end Go.Proofs.Ytgoilmiiegpnoaa

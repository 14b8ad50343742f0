/- Contracts of CheckWorld, checkStations, checkCatalogs, Check: the first error. Condition: the cells that are read. Contracts of checkCatalogs and Check; what a world without error holds. Condition: the cells that are read. Contracts of track.at, At, where, Where: where bodies and stations are. Condition: the cells that are read. -/
import Derived.Test.YtlhihmfefipehaaSkyB
import Derived.Test.YtlhihmfefipehaaKit
namespace Go.Proofs.Ytlhihmfefipehaa
open Go.RowKit Go.Shelf
attribute [local go_sem] Ext.cell Ext.frozen Ext.lt Ext.le Ext.lt_add Ext.le_add Ext.ne Ext.ne' lt2 lt3 lt4 lt5 le2 le3 le4
set_option maxHeartbeats 4000000 in
theorem CheckWorld_any (p : Option Addr) (c : Nat) (l : List BodyR) (h : Int) (w : World) (hP : BodiesAt w p l) : Calls Try.prog 41 #[wval p l.length c h] w (Gives (.int .i64 (worldE l h)) w) := by
  have cc := fun W => checkCount_any l.length 1 8 W
  unfold wval worldE
  by_cases hc : cntE l.length 1 8 = 0
  · rw [if_pos hc]
    rw [hc] at cc
    obtain ⟨V, hV⟩ : ∃ V, bodiesE l = V := ⟨_, rfl⟩
    rw [hV]
    obtain ⟨R, hR⟩ : ∃ R : Int, (if V = 0 then (if 0 ≤ h ∧ h < l.length then 0 else 7) else V) = R := ⟨_, rfl⟩
    rw [hR]
    have hR := Go.Lib.hid hR
    have hV := Go.Lib.hid hV
    have hP := Go.Lib.hid hP
    have hn : l.length ≤ 8 := (cntE_zero hc).2
    clear hc
    go_enter Try.func41, Try.ntmps41
    go_wp2_with (first | ((first | with_reducible refine wrx2 ?_ | with_reducible refine wrx ?_); (repeat (first | go_big_quiet_step ((first | (go_at_call 66; with_reducible exact Calls.ext (cc _)))) | quiet_step ((first | (go_at_call 66; with_reducible exact Calls.ext (cc _)))))); refine wpQuiet_nil ?_; rintro _ ⟨yr, rfl⟩; have syr := Ext.size yr; (repeat (first | rw [World.size_alloc] at syr | rw [World.size_setCell] at syr | rw [World.size_drew] at syr))) | (go_at_call 66; (first | with_reducible refine (Calls.giv2 (cc _)).mono ?_ | with_reducible refine (Calls.giv (cc _)).mono ?_); rintro _ _ ⟨y1, rfl, rfl⟩; have sy1 := Ext.size y1; (repeat (first | rw [World.size_alloc] at sy1 | rw [World.size_setCell] at sy1 | rw [World.size_drew] at sy1))))
    have hBw : Below w.heap.size w y1.now := by repeat' (first | (with_reducible exact Below.refl _ _) | (with_reducible assumption) | (with_reducible refine Ext.below _ ?_ ?_) | (with_reducible refine Below.on ?_ (by with_reducible assumption) ?_) | (with_reducible refine Below.alloc ?_ ?_ _) | (with_reducible refine Below.drew ?_) | (with_reducible refine Below.setCell ?_ ?_ _) | (with_reducible exact Nat.le_refl _) | omega | (simp; done) | (simp [go_sem]; done) | (simp at *; omega))
    have hP := Go.Lib.hid (hP.out.on hBw)
    have hTs : w.heap.size < y1.now.heap.size := by omega
    have hT0 : y1.now.cell? ⟨w.heap.size, 0, none⟩ = some (.slice p l.length c) := by simp [go_sem]
    have hT1 : y1.now.cell? ⟨w.heap.size, 1, none⟩ = some (.int .i64 h) := by simp [go_sem]
    generalize y1.now = W0 at *
    go_loopw [17] (fun s W => ∃ (i : Nat) (x : Ext W0), s = .int .i64 i ∧ W = x.now ∧ Hid (i ≤ l.length ∧ bodiesE (l.drop i) = V)) (fun s _ => l.length - (intOf s).toNat)
    case atStart => exact ⟨0, ⟨W0, Below.refl _ _⟩, rfl, rfl, Go.Lib.hid ⟨Nat.zero_le _, by simpa using hV.out⟩⟩
    case round =>
      obtain ⟨i, x, rfl, rfl, hi⟩ := hrel
      have xs := x.size
      have hbx := x.below hBw (by omega)
      by_cases hlt : i < l.length
      · have hlt2 : (i : Int) < l.length := by omega
        obtain ⟨ht, B, o, rfl, hB, c1, c2, c3⟩ := hP.out i hlt
        have hE := hi.out.2
        rw [drop_at hlt, bodiesE] at hE
        have aw := fun (W : World) (y : Below W0.heap.size W0 W) => checkBody_any l[i].mu l[i].rad l[i].tp l[i].tc l[i].track W (ht.on y)
        by_cases hw : bodyE l[i] = 0
        · have key : Hid (i + 1 ≤ l.length ∧ bodiesE (l.drop (i + 1)) = V) := Go.Lib.hid ⟨hlt, by rw [if_pos hw] at hE; exact hE⟩
          rw [show bodyE ⟨l[i].mu, l[i].rad, l[i].tp, l[i].tc, l[i].track⟩ = 0 from hw] at aw
          clear hE hi hw ht
          generalize l[i].mu = u1 at *
          generalize l[i].rad = u2 at *
          generalize l[i].track.length = u3 at *
          generalize l[i].tp = u4 at *
          generalize l[i].tc = u5 at *
          go_wp2_with (first | ((first | with_reducible refine wrx2 ?_ | with_reducible refine wrx ?_); (repeat (first | go_big_quiet_step ((first | (go_at_call 67; with_reducible exact Calls.ext (aw _ bcl)))) | quiet_step ((first | (go_at_call 67; with_reducible exact Calls.ext (aw _ bcl)))))); refine wpQuiet_nil ?_; rintro _ ⟨yr, rfl⟩; have syr := Ext.size yr; (repeat (first | rw [World.size_alloc] at syr | rw [World.size_setCell] at syr | rw [World.size_drew] at syr)); have : B < yr.now.heap.size := (by omega); have : B ≤ yr.now.heap.size := (by omega); have : B < yr.now.heap.size + 1 + 1 := (by omega)) | (go_at_call 67; (first | with_reducible refine (Calls.giv2 (aw _ bcl)).mono ?_ | with_reducible refine (Calls.giv (aw _ bcl)).mono ?_); rintro _ _ ⟨y1, rfl, rfl⟩; have sy1 := Ext.size y1; (repeat (first | rw [World.size_alloc] at sy1 | rw [World.size_setCell] at sy1 | rw [World.size_drew] at sy1)); have : B < y1.now.heap.size := (by omega); have : B ≤ y1.now.heap.size := (by omega); have : B < y1.now.heap.size + 1 + 1 := (by omega)))
          refine ⟨⟨i + 1, ⟨_, ?_⟩, by simp, rfl, key⟩, by simp [intOf]; omega⟩
          repeat' (first | (with_reducible exact Below.refl _ _) | (with_reducible assumption) | (with_reducible refine Ext.below _ ?_ ?_) | (with_reducible refine Below.on ?_ (by with_reducible assumption) ?_) | (with_reducible refine Below.alloc ?_ ?_ _) | (with_reducible refine Below.drew ?_) | (with_reducible refine Below.setCell ?_ ?_ _) | (with_reducible exact Nat.le_refl _) | omega | (simp; done) | (simp [go_sem]; done) | (simp at *; omega))
        · have eR : R = bodyE l[i] := by rw [if_neg hw] at hE; rw [← hR.out, ← hE, if_neg hw]
          clear hE hi hV hR ht
          generalize bodyE l[i] = e at *
          subst eR
          have aw : ∀ (W : World), Below W0.heap.size W0 W → Calls Try.prog 67 #[.agg #[.int .i64 l[i].mu, .int .i64 l[i].rad, .slice l[i].tp l[i].track.length l[i].tc]] W (Gives (.int .i64 R) W) := aw
          generalize l[i].mu = u1 at *
          generalize l[i].rad = u2 at *
          generalize l[i].track.length = u3 at *
          generalize l[i].tp = u4 at *
          generalize l[i].tc = u5 at *
          go_wp2_with (first | ((first | with_reducible refine wrx2 ?_ | with_reducible refine wrx ?_); (repeat (first | go_big_quiet_step ((first | (go_at_call 67; with_reducible exact Calls.ext (aw _ bcl)))) | quiet_step ((first | (go_at_call 67; with_reducible exact Calls.ext (aw _ bcl)))))); refine wpQuiet_nil ?_; rintro _ ⟨yr, rfl⟩; have syr := Ext.size yr; (repeat (first | rw [World.size_alloc] at syr | rw [World.size_setCell] at syr | rw [World.size_drew] at syr)); have : B < yr.now.heap.size := (by omega); have : B ≤ yr.now.heap.size := (by omega); have : B < yr.now.heap.size + 1 + 1 := (by omega)) | (go_at_call 67; (first | with_reducible refine (Calls.giv2 (aw _ bcl)).mono ?_ | with_reducible refine (Calls.giv (aw _ bcl)).mono ?_); rintro _ _ ⟨y1, rfl, rfl⟩; have sy1 := Ext.size y1; (repeat (first | rw [World.size_alloc] at sy1 | rw [World.size_setCell] at sy1 | rw [World.size_drew] at sy1)); have : B < y1.now.heap.size := (by omega); have : B ≤ y1.now.heap.size := (by omega); have : B < y1.now.heap.size + 1 + 1 := (by omega)))
          go_returns
          refine ⟨rfl, ?_⟩
          repeat' (first | (with_reducible exact Below.refl _ _) | (with_reducible assumption) | (with_reducible refine Ext.below _ ?_ ?_) | (with_reducible refine Below.on ?_ (by with_reducible assumption) ?_) | (with_reducible refine Below.alloc ?_ ?_ _) | (with_reducible refine Below.drew ?_) | (with_reducible refine Below.setCell ?_ ?_ _) | (with_reducible exact Nat.le_refl _) | omega | (simp; done) | (simp [go_sem]; done) | (simp at *; omega))
      · have hge : ¬ (i : Int) < l.length := by omega
        have eV : V = 0 := by have hE := hi.out.2; rw [drop_end hlt, bodiesE] at hE; exact hE.symm
        have hR := hR.out
        rw [if_pos eV] at hR
        have hb := fun W => hasBody_any p l.length c h h W
        unfold wval at hb
        clear hi hV eV
        by_cases hh : 0 ≤ h ∧ h < l.length
        · rw [if_pos hh] at hR
          rw [decide_eq_true hh] at hb
          clear hh
          subst hR
          go_wp2_with (first | ((first | with_reducible refine wrx2 ?_ | with_reducible refine wrx ?_); (repeat (first | go_big_quiet_step ((first | (go_at_call 68; with_reducible exact Calls.ext (hb _)))) | quiet_step ((first | (go_at_call 68; with_reducible exact Calls.ext (hb _)))))); refine wpQuiet_nil ?_; rintro _ ⟨yr, rfl⟩; have syr := Ext.size yr; (repeat (first | rw [World.size_alloc] at syr | rw [World.size_setCell] at syr | rw [World.size_drew] at syr))) | (go_at_call 68; (first | with_reducible refine (Calls.giv2 (hb _)).mono ?_ | with_reducible refine (Calls.giv (hb _)).mono ?_); rintro _ _ ⟨y1, rfl, rfl⟩; have sy1 := Ext.size y1; (repeat (first | rw [World.size_alloc] at sy1 | rw [World.size_setCell] at sy1 | rw [World.size_drew] at sy1))))
          go_returns
          refine ⟨rfl, ?_⟩
          repeat' (first | (with_reducible exact Below.refl _ _) | (with_reducible assumption) | (with_reducible refine Ext.below _ ?_ ?_) | (with_reducible refine Below.on ?_ (by with_reducible assumption) ?_) | (with_reducible refine Below.alloc ?_ ?_ _) | (with_reducible refine Below.drew ?_) | (with_reducible refine Below.setCell ?_ ?_ _) | (with_reducible exact Nat.le_refl _) | omega | (simp; done) | (simp [go_sem]; done) | (simp at *; omega))
        · rw [if_neg hh] at hR
          rw [decide_eq_false hh] at hb
          clear hh
          subst hR
          go_wp2_with (first | ((first | with_reducible refine wrx2 ?_ | with_reducible refine wrx ?_); (repeat (first | go_big_quiet_step ((first | (go_at_call 68; with_reducible exact Calls.ext (hb _)))) | quiet_step ((first | (go_at_call 68; with_reducible exact Calls.ext (hb _)))))); refine wpQuiet_nil ?_; rintro _ ⟨yr, rfl⟩; have syr := Ext.size yr; (repeat (first | rw [World.size_alloc] at syr | rw [World.size_setCell] at syr | rw [World.size_drew] at syr))) | (go_at_call 68; (first | with_reducible refine (Calls.giv2 (hb _)).mono ?_ | with_reducible refine (Calls.giv (hb _)).mono ?_); rintro _ _ ⟨y1, rfl, rfl⟩; have sy1 := Ext.size y1; (repeat (first | rw [World.size_alloc] at sy1 | rw [World.size_setCell] at sy1 | rw [World.size_drew] at sy1))))
          go_returns
          refine ⟨rfl, ?_⟩
          repeat' (first | (with_reducible exact Below.refl _ _) | (with_reducible assumption) | (with_reducible refine Ext.below _ ?_ ?_) | (with_reducible refine Below.on ?_ (by with_reducible assumption) ?_) | (with_reducible refine Below.alloc ?_ ?_ _) | (with_reducible refine Below.drew ?_) | (with_reducible refine Below.setCell ?_ ?_ _) | (with_reducible exact Nat.le_refl _) | omega | (simp; done) | (simp [go_sem]; done) | (simp at *; omega))
  · rw [if_neg hc]
    generalize cntE l.length 1 8 = e at *
    go_enter Try.func41, Try.ntmps41
    go_wp2_with (first | ((first | with_reducible refine wrx2 ?_ | with_reducible refine wrx ?_); (repeat (first | go_big_quiet_step ((first | (go_at_call 66; with_reducible exact Calls.ext (cc _)))) | quiet_step ((first | (go_at_call 66; with_reducible exact Calls.ext (cc _)))))); refine wpQuiet_nil ?_; rintro _ ⟨yr, rfl⟩; have syr := Ext.size yr; (repeat (first | rw [World.size_alloc] at syr | rw [World.size_setCell] at syr | rw [World.size_drew] at syr))) | (go_at_call 66; (first | with_reducible refine (Calls.giv2 (cc _)).mono ?_ | with_reducible refine (Calls.giv (cc _)).mono ?_); rintro _ _ ⟨y1, rfl, rfl⟩; have sy1 := Ext.size y1; (repeat (first | rw [World.size_alloc] at sy1 | rw [World.size_setCell] at sy1 | rw [World.size_drew] at sy1))))
    go_returns
    refine ⟨rfl, ?_⟩
    repeat' (first | (with_reducible exact Below.refl _ _) | (with_reducible assumption) | (with_reducible refine Ext.below _ ?_ ?_) | (with_reducible refine Below.on ?_ (by with_reducible assumption) ?_) | (with_reducible refine Below.alloc ?_ ?_ _) | (with_reducible refine Below.drew ?_) | (with_reducible refine Below.setCell ?_ ?_ _) | (with_reducible exact Nat.le_refl _) | omega | (simp; done) | (simp [go_sem]; done) | (simp at *; omega))
end Go.Proofs.Ytlhihmfefipehaa
namespace Go.Proofs.Ytlhihmfefipehaa
open Go.RowKit Go.Shelf
attribute [local go_sem] Ext.cell Ext.frozen Ext.lt Ext.le Ext.lt_add Ext.le_add Ext.ne Ext.ne' lt2 lt3 lt4 lt5 le2 le3 le4
def SkyR.val (s : SkyR) : Value := .agg #[.slice s.bp s.bodies.length s.bc, .int .i64 s.home, .slice s.sp s.sts.length s.sc, .slice s.cp s.cats.length s.cc]
end Go.Proofs.Ytlhihmfefipehaa
namespace Go.Proofs.Ytlhihmfefipehaa
open Go.RowKit Go.Shelf
attribute [local go_sem] Ext.cell Ext.frozen Ext.lt Ext.le Ext.lt_add Ext.le_add Ext.ne Ext.ne' lt2 lt3 lt4 lt5 le2 le3 le4
theorem placesE_zero {l : List V2} (h : placesE l = 0) : ∀ j (hj : j < l.length), vwinB l[j] 33554432 = true := by
  induction l with
  | nil => intro j hj; simp at hj
  | cons v l ih =>
    rw [placesE] at h
    by_cases hv : vwinB v 33554432 = true
    · rw [if_pos hv] at h
      intro j hj
      cases j with
      | zero => exact hv
      | succ j => exact ih h j (by simpa using hj)
    · rw [if_neg hv] at h; cases h
theorem bodiesE_zero {l : List BodyR} (h : bodiesE l = 0) : ∀ j (hj : j < l.length), bodyE l[j] = 0 := by
  induction l with
  | nil => intro j hj; simp at hj
  | cons v l ih =>
    rw [bodiesE] at h
    by_cases hv : bodyE v = 0
    · rw [if_pos hv] at h
      intro j hj
      cases j with
      | zero => exact hv
      | succ j => exact ih h j (by simpa using hj)
    · rw [if_neg hv] at h; exact absurd h hv
theorem bodyE_zero {b : BodyR} (h : bodyE b = 0) : 0 ≤ b.mu ∧ b.mu ≤ 1125899906842624 ∧ 0 ≤ b.rad ∧ b.rad ≤ 1048576 ∧ 1 ≤ b.track.length ∧ b.track.length ≤ 4096 ∧ placesE b.track = 0 := by
  unfold bodyE at h
  by_cases h1 : b.mu < 0 ∨ 1125899906842624 < b.mu ∨ b.rad < 0 ∨ 1048576 < b.rad
  · rw [if_pos h1] at h; cases h
  · rw [if_neg h1] at h
    by_cases h2 : cntE b.track.length 1 4096 = 0
    · rw [if_pos h2] at h
      have := cntE_zero h2
      exact ⟨by omega, by omega, by omega, by omega, this.1, this.2, h⟩
    · rw [if_neg h2] at h; exact absurd h h2
theorem worldE_zero {l : List BodyR} {h : Int} (e : worldE l h = 0) : (∀ j (hj : j < l.length), bodyE l[j] = 0) ∧ 1 ≤ l.length ∧ l.length ≤ 8 ∧ 0 ≤ h ∧ h < l.length := by
  unfold worldE at e
  by_cases h1 : cntE l.length 1 8 = 0
  · rw [if_pos h1] at e
    by_cases h2 : bodiesE l = 0
    · rw [if_pos h2] at e
      by_cases h3 : 0 ≤ h ∧ h < l.length
      · have := cntE_zero h1
        exact ⟨bodiesE_zero h2, this.1, this.2, h3.1, h3.2⟩
      · rw [if_neg h3] at e; cases e
    · rw [if_neg h2] at e; exact absurd e h2
  · rw [if_neg h1] at e; exact absurd e h1
theorem stsE_zero {l : List StR} : ∀ {z : Int}, stsE z l = 0 → ∀ j (hj : j < l.length), vwinB l[j].off 1048576 = true := by
  induction l with
  | nil => intro z h j hj; simp at hj
  | cons v l ih =>
    intro z h
    rw [stsE] at h
    by_cases h1 : v.id ≤ z
    · rw [if_pos h1] at h; cases h
    · rw [if_neg h1] at h
      by_cases hv : vwinB v.off 1048576 = true
      · rw [if_pos hv] at h
        intro j hj
        cases j with
        | zero => exact hv
        | succ j => exact ih h j (by simpa using hj)
      · rw [if_neg hv] at h; cases h
theorem stationsE_zero {l : List StR} (h : stationsE l = 0) : l.length ≤ 16 ∧ ∀ j (hj : j < l.length), vwinB l[j].off 1048576 = true := by
  unfold stationsE at h
  by_cases h1 : 16 < l.length
  · rw [if_pos h1] at h; cases h
  · rw [if_neg h1] at h; exact ⟨by omega, stsE_zero h⟩
theorem skyE_zero {s : SkyR} (h : skyE s = 0) : worldE s.bodies s.home = 0 ∧ stationsE s.sts = 0 ∧ catalogsE s.cats = 0 := by
  unfold skyE at h
  by_cases h1 : worldE s.bodies s.home = 0
  · rw [if_pos h1] at h
    by_cases h2 : stationsE s.sts = 0
    · rw [if_pos h2] at h; exact ⟨h1, h2, h⟩
    · rw [if_neg h2] at h; exact absurd h h2
  · rw [if_neg h1] at h; exact absurd h h1
theorem vwinB_out {v : V2} {m : Int} (h : vwinB v m = true) : (-m ≤ v.x ∧ v.x ≤ m) ∧ -m ≤ v.y ∧ v.y ≤ m := by
  unfold vwinB winB at h
  simpa using h
theorem tickB_out {t : Int} : tickB t = true ↔ 0 ≤ t ∧ t ≤ 1073741824 := by unfold tickB; simp
theorem trackAt_get {l : List V2} {t : Int} {k : Nat} (hk : k < l.length) (e : (t % l.length).toNat = k) : trackAt l t = l[k] := by
  unfold trackAt; rw [e, List.getD_eq_getElem?_getD, List.getElem?_eq_getElem hk]; rfl
theorem at_any (p : Option Addr) (c : Nat) (l : List V2) (t : Int) (w : World) (hP : VecsAt w p l) (h1 : 1 ≤ l.length) (h2 : l.length ≤ 4096) (ht : tickB t = true) :
    Calls Try.prog 93 #[.slice p l.length c, .int .i64 t] w (Gives (.agg #[.int .i64 (trackAt l t).x, .int .i64 (trackAt l t).y]) w) := by
  obtain ⟨t0, t1⟩ := tickB_out.1 ht
  have hm0 := Int.emod_nonneg t (b := (l.length : Int)) (by omega)
  have hm1 := Int.emod_lt_of_pos t (b := (l.length : Int)) (by omega)
  obtain ⟨k, hk⟩ := Int.eq_ofNat_of_zero_le hm0
  have hkl : k < l.length := by omega
  rw [trackAt_get hkl (by rw [hk]; exact Int.toNat_natCast k)]
  obtain ⟨B, o, rfl, hB, c1, c2⟩ := hP k hkl
  have e0 : (((l.length : Nat) : Int) == 0) = false := by rw [beq_eq_false_iff_ne]; omega
  have e2 : (k : Int) < (l.length : Int) := by omega
  generalize l[k].x = u at *
  generalize l[k].y = v at *
  clear hP hm0 hm1 ht
  generalize l.length = n at *
  go_enter Try.func93, Try.ntmps93
  go_wp2_with (first | ((first | with_reducible refine wrx2 ?_ | with_reducible refine wrx ?_); (repeat (first | go_big_quiet_step ((first | fail)) | quiet_step ((first | fail)))); refine wpQuiet_nil ?_; rintro _ ⟨yr, rfl⟩; have syr := Ext.size yr; (repeat (first | rw [World.size_alloc] at syr | rw [World.size_setCell] at syr | rw [World.size_drew] at syr))))
  go_returns
  refine ⟨rfl, ?_⟩
  repeat' (first | (with_reducible exact Below.refl _ _) | (with_reducible assumption) | (with_reducible refine Ext.below _ ?_ ?_) | (with_reducible refine Below.on ?_ (by with_reducible assumption) ?_) | (with_reducible refine Below.alloc ?_ ?_ _) | (with_reducible refine Below.drew ?_) | (with_reducible refine Below.setCell ?_ ?_ _) | (with_reducible exact Nat.le_refl _) | omega | (simp; done) | (simp [go_sem]; done) | (simp at *; omega))
end Go.Proofs.Ytlhihmfefipehaa

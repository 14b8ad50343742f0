/- The blows of a rock as the reference lists them: mathematics. The late stone bursts in no layer that the early one does not burst in. Condition: a valid rock and valid layers. Tolls as mathematics: more energy harms no fewer; the blows of a rock have energies in order. Condition: valid grades, land, air and rock. SameBlows; boxes that are written whole, of any size. No condition. -/
import Derived.Test.YtlmhbggigbmeaaaDoorBlBgG
import Derived.Test.YtlmhbggigbmeaaaDoorBlBvG
import Derived.Test.YtlmhbggigbmeaaaDoorBlU1
namespace Go.Proofs.YtlmhbggigbmeaaaDoor
open Go.RowKit Go.Shelf
/-- The blows up to the layer in which the late stone bursts. -/
def rblL (s t : StoneR) : List V2 → Nat → Int → Int → List BlowR
  | [], i, we, wl => [⟨i, massV t * wl, massV s * we, true⟩]
  | v :: l, i, we, wl => (if burstB s v.y we = true then [⟨i, massV t * wl, massV s * we, burstB t v.y wl⟩] else []) ++ (if burstB t v.y wl = true then [] else rblL s t l (i + 1) (stp we (kOf s v) (dOf s)) (stp wl (kOf t v) (dOf t)))
theorem cei_at {n c q : Int} (hc : 0 < c) : cei n c ≤ q ↔ n ≤ q * c := by
  rw [← cei_way hc]
  constructor
  · intro h
    have h1 : (n + c - 1) / c < q + 1 := by omega
    have h2 := (Int.ediv_lt_iff_lt_mul hc).1 h1
    rw [Int.add_mul, Int.one_mul] at h2
    omega
  · intro h
    have h2 : n + c - 1 < (q + 1) * c := by rw [Int.add_mul, Int.one_mul]; omega
    have h1 := (Int.ediv_lt_iff_lt_mul hc).2 h2
    omega
theorem cei_anti {n c d : Int} (hc : 0 < c) (h : c ≤ d) (hn : 0 ≤ cei n c) : cei n d ≤ cei n c := by
  refine (cei_at (by omega)).2 ?_
  have h1 := (cei_at hc).1 (Int.le_refl (cei n c))
  have h2 := Int.mul_le_mul_of_nonneg_left h hn
  omega
/-- What two stones of a rock, the early and the late one, are to each other. -/
structure EarlyLate (s t : StoneR) : Prop where
  es : s.Ok
  lt : t.Ok
  holds : holdsV s ≤ holdsV t
  d : dOf t ≤ dOf s
  k : ∀ v : V2, (1 ≤ v.x ∧ v.x ≤ 1000) → (0 ≤ v.y ∧ v.y ≤ 1000) → kOf s v ≤ kOf t v
theorem early_late {k : RockR} {f : FallR} (h : rockE k f = 0) : EarlyLate (firstS k f) (lastS k f) := by
  obtain ⟨h1, h2, a0, a1, a2, a3, a4, a5, a6⟩ := rockE_ok h
  refine ⟨h1, h2, ?_, ?_, ?_⟩
  · unfold holdsV
    have e1 : (firstS k f).pile = k.pile := rfl
    have e2 : (lastS k f).pile = k.pile := rfl
    rw [e1, e2]
    split
    · have q1 := h1.strong
      have q2 := h2.strong
      have q3 := h1.spin
      have q4 := h2.spin
      simp only [firstS, lastS] at *
      exact Int.ediv_le_ediv (by omega) (Int.mul_le_mul a2 (by omega) (by omega) (by omega))
    · exact a2
  · have q1 := h1.dens
    have q2 := h2.dens
    have q3 := h1.size
    have q4 := h2.size
    unfold dOf
    simp only [firstS, lastS] at *
    have := Int.mul_le_mul a1 a0 (by omega) (by omega)
    omega
  · intro v hx hy
    have w1 := way_bounds h1 hx
    have w2 := way_bounds h2 hx
    have q1 := h1.slope
    have q2 := h2.slope
    have q3 := h1.shape
    have q4 := h2.shape
    unfold kOf
    simp only [firstS, lastS] at *
    have c1 := cei_anti (n := v.x * 1000) (c := f.slope.x) (d := f.slope.y) (by omega) a6 w2.1
    exact Int.mul_le_mul_of_nonneg_left (Int.mul_le_mul c1 a4 (by omega) w2.1) hy.1
theorem burst_late {s t : StoneR} (h : EarlyLate s t) {y we wl : Int} (hy : 0 ≤ y) (hw : wl ≤ we) (hb : burstB t y wl = true) : burstB s y we = true := by
  unfold burstB at *
  rw [decide_eq_true_eq] at *
  have h1 := h.holds
  have h2 := Int.mul_le_mul_of_nonneg_left hw hy
  omega
theorem stp_late {s t : StoneR} (h : EarlyLate s t) {v : V2} (hx : 1 ≤ v.x ∧ v.x ≤ 1000) (hy : 0 ≤ v.y ∧ v.y ≤ 1000) {we wl : Int} (h0 : 0 ≤ wl) (hw : wl ≤ we) : stp wl (kOf t v) (dOf t) ≤ stp we (kOf s v) (dOf s) :=
  stp_mono h0 hw (k_bounds h.es hx hy).2.2 (h.k v hx hy) (by have := (d_bounds h.lt).2; omega) h.d
theorem thru_rbl {s t : StoneR} (h : EarlyLate s t) : ∀ (l : List V2) (i : Nat) (we wl : Int), (∀ v ∈ l, (1 ≤ v.x ∧ v.x ≤ 1000) ∧ 0 ≤ v.y ∧ v.y ≤ 1000) → 0 ≤ wl → wl ≤ we → thru (blowsL s t l i we wl) = rblL s t l i we wl
  | [], i, we, wl, _, _, _ => by simp [blowsL, thru, rblL]
  | v :: l, i, we, wl, hl, h0, hw => by
    obtain ⟨hx, hy⟩ := hl v (by simp)
    have ih := thru_rbl h l (i + 1) (stp we (kOf s v) (dOf s)) (stp wl (kOf t v) (dOf t)) (fun u hu => hl u (by simp [hu])) (stp_nonneg _ _ _) (stp_late h hx hy h0 hw)
    unfold blowsL rblL
    rw [← ih]
    by_cases hb : burstB s v.y we = true
    · rw [if_pos hb]
      simp only [List.cons_append, List.nil_append, thru]
      split <;> rfl
    · rw [if_neg hb, if_neg (fun q => hb (burst_late h hy.1 hw q))]
      rfl
end Go.Proofs.YtlmhbggigbmeaaaDoor
namespace Go.Proofs.YtlmhbggigbmeaaaDoor
open Go.RowKit Go.Shelf
theorem GradesOk.pw' {l : List V2} (h : GradesOk l) : l.Pairwise (fun g h => g.y ≤ h.y) := by
  rw [List.pairwise_iff_getElem]
  intro i j hi hj hij
  have key : ∀ d, ∀ i (h1 : i < l.length) (h2 : i + d < l.length), l[i].y ≤ l[i + d].y := by
    intro d
    induction d with
    | zero => intro i h1 h2; exact Int.le_refl _
    | succ d ih => intro i h1 h2; exact Int.le_trans (ih i h1 (by omega)) (h.up (i + d) (by omega)).2
  have := key (j - i) i hi (by omega)
  simpa only [show i + (j - i) = j by omega] using this
theorem reachL_le {l : List V2} (h : GradesOk l) {e e' : Int} (he : e ≤ e') : reachL e l 0 ≤ reachL e' l 0 := reachL_mono he l 0 0 (Int.le_refl _) (fun g hg => (h.rng g hg).2.1) h.pw'
theorem harmV_le {x : LandR} (hok : x.Ok) {a r r' : Int} (h : r ≤ r') : harmV x a r ≤ harmV x a r' := seg_mono (fun n hn => (hok.num n hn).1) (by omega) (by omega)
theorem waveV_le {x : LandR} (hok : x.Ok) {a r r' : Int} (h0 : 0 ≤ a) (h1 : a < x.pl.length) (hr : 0 ≤ r) (h : r ≤ r') : waveV x a r ≤ waveV x a r' := by
  have e : r'.toNat = r.toNat + (r' - r).toNat := by omega
  unfold waveV
  rw [e]
  exact seg_mono (fun n hn => (hok.num n hn).1) (run_left_more _ _ _ _ h0) (run_right_more _ _ _ _ (by rw [hok.len]; exact h1))
theorem harmsV_le {n : Nat} {g : List V2} {x : LandR} (hg : GradesOk g) (hok : x.Ok) {layer e e' a : Int} (h0 : 0 ≤ a) (h1 : a < x.pl.length) (he : e ≤ e') : harmsV n g x layer e a ≤ harmsV n g x layer e' a := by
  have hR := reachL_in (e := e) g 0 (fun u hu => (hg.rng u hu).2) (by omega) (by omega)
  have hm := reachL_le hg he
  unfold harmsV reachW
  split
  · exact waveV_le hok h0 h1 hR.1 hm
  · exact harmV_le hok (by omega)
theorem seg_bound {x : LandR} (hok : x.Ok) (a b : Int) (h : a ≤ b + 1) : 0 ≤ seg x.pl a b ∧ seg x.pl a b ≤ 1717986918400 := by
  have hm := psum_mono (l := x.pl) (fun n hn => (hok.num n hn).1) h
  have h0 := psum_mono (l := x.pl) (fun n hn => (hok.num n hn).1) (show min a 0 ≤ a by omega)
  have hz := psum_zero (l := x.pl) (k := min a 0) (by omega)
  have h2 := psum_mono (l := x.pl) (fun n hn => (hok.num n hn).1) (show b + 1 ≤ max (b + 1) x.pl.length by omega)
  have h3 := psum_all (l := x.pl) (k := max (b + 1) x.pl.length) (by omega)
  have h4 := sum_bound hok.num
  have h5 := hok.le
  unfold seg
  omega
theorem harmsV_bound {n : Nat} {g : List V2} {x : LandR} (hg : GradesOk g) (hok : x.Ok) {layer e a : Int} (h0 : 0 ≤ a) (h1 : a < x.pl.length) : 0 ≤ harmsV n g x layer e a ∧ harmsV n g x layer e a ≤ 1717986918400 := by
  have hR := reachL_in (e := e) g 0 (fun u hu => (hg.rng u hu).2) (by omega) (by omega)
  unfold harmsV
  split
  · have a1 := run_left x.wl (reachL e g 0).toNat a h0
    have a2 := run_right x.wl (reachL e g 0).toNat a (by rw [hok.len]; exact h1)
    exact seg_bound hok _ _ (by omega)
  · have : 0 ≤ reachW n g layer e := by unfold reachW; omega
    exact seg_bound hok _ _ (by omega)
theorem massV_le {k : RockR} {f : FallR} (h : rockE k f = 0) : massV (lastS k f) ≤ massV (firstS k f) := by
  obtain ⟨h1, h2, a0, a1, -⟩ := rockE_ok h
  have q1 := h1.size
  have q2 := h2.size
  have q3 := h1.dens
  have q4 := h2.dens
  unfold massV
  simp only [firstS, lastS] at *
  have s1 := Int.mul_le_mul a0 a0 (by omega) (by omega)
  have s0 := Int.mul_nonneg (show 0 ≤ k.size.x by omega) (show 0 ≤ k.size.x by omega)
  have s0' := Int.mul_nonneg (show 0 ≤ k.size.y by omega) (show 0 ≤ k.size.y by omega)
  have s2 := Int.mul_le_mul s1 a0 (by omega) (by omega)
  have s3 := Int.mul_nonneg s0' (show 0 ≤ k.size.y by omega)
  exact Int.ediv_le_ediv (by omega) (Int.mul_le_mul s2 a1 (by omega) (by omega))
/-- The blows of a rock: their layers, and their energies in order. -/
structure BlowOk (n : Nat) (b : BlowR) : Prop where
  layer : b.n ≤ n
  le : b.lo ≤ b.hi
theorem rblL_ok {k : RockR} {f : FallR} (h : rockE k f = 0) (N : Nat) : ∀ (l : List V2) (i : Nat) (we wl : Int), (∀ v ∈ l, (1 ≤ v.x ∧ v.x ≤ 1000) ∧ 0 ≤ v.y ∧ v.y ≤ 1000) → i + l.length = N → 0 ≤ wl → wl ≤ we → ∀ b ∈ rblL (firstS k f) (lastS k f) l i we wl, BlowOk N b
  | [], i, we, wl, _, hi, h0, hw, b, hb => by
    have hm := massV_le h
    obtain ⟨h1, h2, -⟩ := rockE_ok h
    obtain ⟨-, -, m5, m6⟩ := mass_bounds h2
    have m0 : 0 ≤ massV (lastS k f) := by unfold massV; omega
    simp only [rblL, List.mem_singleton] at hb
    subst hb
    exact ⟨by simp at hi; simp only; omega, Int.mul_le_mul hm hw h0 (by omega)⟩
  | v :: l, i, we, wl, hl, hi, h0, hw, b, hb => by
    have hm := massV_le h
    obtain ⟨h1, h2, -⟩ := rockE_ok h
    obtain ⟨-, -, m5, m6⟩ := mass_bounds h2
    have m0 : 0 ≤ massV (lastS k f) := by unfold massV; omega
    obtain ⟨hx, hy⟩ := hl v (by simp)
    simp only [List.length_cons] at hi
    unfold rblL at hb
    rcases List.mem_append.1 hb with q | q
    · split at q
      · simp only [List.mem_singleton] at q
        subst q
        exact ⟨by simp only; omega, Int.mul_le_mul hm hw h0 (by omega)⟩
      · cases q
    · split at q
      · cases q
      · exact rblL_ok h N l (i + 1) _ _ (fun u hu => hl u (by simp [hu])) (by omega) (stp_nonneg _ _ _) (stp_late (early_late h) hx hy h0 hw) b q
theorem rblL_ne (s t : StoneR) : ∀ (l : List V2) (i : Nat) (we wl : Int), (∀ v ∈ l, 0 ≤ v.y) → wl ≤ we → EarlyLate s t → (∀ v ∈ l, (1 ≤ v.x ∧ v.x ≤ 1000) ∧ 0 ≤ v.y ∧ v.y ≤ 1000) → 0 ≤ wl → 0 < (rblL s t l i we wl).length
  | [], _, _, _, _, _, _, _, _ => by simp [rblL]
  | v :: l, i, we, wl, h, hw, el, hl, h0 => by
    obtain ⟨hx, hy⟩ := hl v (by simp)
    unfold rblL
    rw [List.length_append]
    by_cases q : burstB t v.y wl = true
    · rw [if_pos (burst_late el (h v (by simp)) hw q)]
      simp only [List.length_cons]
      omega
    · rw [if_neg q]
      have := rblL_ne s t l (i + 1) (stp we (kOf s v) (dOf s)) (stp wl (kOf t v) (dOf t)) (fun u hu => h u (by simp [hu])) (stp_late el hx hy h0 hw) el (fun u hu => hl u (by simp [hu])) (stp_nonneg _ _ _)
      omega
end Go.Proofs.YtlmhbggigbmeaaaDoor
namespace Go.Proofs.YtlmhbggigbmeaaaDoor
open Go.RowKit Go.Shelf
attribute [local go_sem] Option.isSome_some Ext.cell Ext.frozen Ext.lt Ext.le Ext.lt_add Ext.le_add Ext.ne Ext.ne' lt2 lt3 lt4 lt5 le2 le3 le4
/-- A box whose cells are written one behind the other. -/
def setL (W : World) (B : Nat) : Nat → List Value → World
  | _, [] => W
  | o, v :: vs => setL (W.setCell ⟨B, o, none⟩ v) B (o + 1) vs
theorem setL_heap : ∀ (vs : List Value) (W : World) (B o : Nat) (done rest : List Value) (T : TypeId) (f : Nat × Nat), W.heap[B]? = some (.cells (done ++ rest).toArray T f) → done.length = o → rest.length = vs.length → (setL W B o vs).heap[B]? = some (.cells (done ++ vs).toArray T f)
  | [], _, B, _, done, rest, T, f, h, _, hl => by
    obtain rfl := List.length_eq_zero_iff.1 hl
    exact h
  | v :: vs, W, B, o, done, rest, T, f, h, ho, hl => by
    match rest, hl with
    | r :: rest, hl =>
      unfold setL
      have h1 := heap_setCell (o := o) h v
      have h2 : (done ++ r :: rest).toArray.setIfInBounds o v = ((done ++ [v]) ++ rest).toArray := by
        apply Array.ext'
        simp only [Array.toList_setIfInBounds]
        rw [← ho]
        simp
      rw [h2] at h1
      have := setL_heap vs (W.setCell ⟨B, o, none⟩ v) B (o + 1) (done ++ [v]) rest T f h1 (by simp [ho]) (by simpa using hl)
      simpa using this
theorem setL_all {vs : List Value} {W : World} {B : Nat} {cs : Array Value} {T : TypeId} {f : Nat × Nat} (h : W.heap[B]? = some (.cells cs T f)) (hl : cs.size = vs.length) : (setL W B 0 vs).heap[B]? = some (.cells vs.toArray T f) := by
  have := setL_heap vs W B 0 [] cs.toList T f (by simpa using h) rfl (by simpa using hl)
  simpa using this
theorem setL_other {B k : Nat} (hk : k ≠ B) : ∀ (vs : List Value) (W : World) (o : Nat), (setL W B o vs).heap[k]? = W.heap[k]?
  | [], _, _ => rfl
  | v :: vs, _, _ => (setL_other hk vs _ _).trans (heap_setCell_ne hk v)
theorem setL_below {n B : Nat} {w : World} (hn : n ≤ B) : ∀ (vs : List Value) (W : World) (o : Nat), Below n w W → Below n w (setL W B o vs)
  | [], _, _, h => h
  | v :: vs, _, o, h => setL_below hn vs _ _ (h.setCell (p := ⟨B, o, none⟩) hn v)
theorem setL_lim {B : Nat} (hB : 0 < B) : ∀ (vs : List Value) (W : World) (o : Nat), LimAt W → LimAt (setL W B o vs)
  | [], _, _, h => h
  | v :: vs, _, _, h => setL_lim hB vs _ _ (h.set hB v)
structure V3 where
  a : Int
  b : Int
  c : Int
theorem V3.ext' {x y : V3} (h1 : x.a = y.a) (h2 : x.b = y.b) (h3 : x.c = y.c) : x = y := by cases x; cases y; simp at *; exact ⟨h1, h2, h3⟩
def V3At (W : World) (p : Option Addr) (l : List V3) : Prop := ∀ j (h : j < l.length), ∃ B o, p = some ⟨B, o, none⟩ ∧ B < W.heap.size ∧ W.cell? ⟨B, o + j * 3, none⟩ = some (.int .i64 l[j].a) ∧ W.cell? ⟨B, o + j * 3 + 1, none⟩ = some (.int .i64 l[j].b) ∧ W.cell? ⟨B, o + j * 3 + 2, none⟩ = some (.int .i64 l[j].c)
theorem V3At.on {W W' : World} {p : Option Addr} {l : List V3} (h : V3At W p l) (b : Below W.heap.size W W') : V3At W' p l := fun j hj => by
  obtain ⟨B, o, rfl, hB, h1, h2, h3⟩ := h j hj
  exact ⟨B, o, rfl, Nat.lt_of_lt_of_le hB b.size, (b.cell (p := ⟨B, o + j * 3, none⟩) hB).trans h1, (b.cell (p := ⟨B, o + j * 3 + 1, none⟩) hB).trans h2, (b.cell (p := ⟨B, o + j * 3 + 2, none⟩) hB).trans h3⟩
def v3s (l : List BlowR) : List V3 := l.map fun x => ⟨x.n, x.lo, x.hi⟩
theorem v3_of {W : World} {base : Nat} {e : TypeId} {v : Value} {l : List BlowR} (h : W.ownsRow base e 3 v l.length (rowsB l)) : ∃ p c, v = .slice p (v3s l).length c ∧ V3At W p (v3s l) := by
  obtain ⟨p, c, rfl, hc⟩ := owns_at (fun x : BlowR => [.int .i64 x.n, .int .i64 x.lo, .int .i64 x.hi]) 3 (fun _ => rfl) l h
  refine ⟨p, c, by simp [v3s], fun j hj => ?_⟩
  have hj2 : j < l.length := by simpa [v3s] using hj
  obtain ⟨B, o, hp, hb, hB, hv⟩ := hc j hj2
  exact ⟨B, o, hp, hB, by simpa [v3s] using hv 0 _ rfl, by simpa [v3s] using hv 1 _ rfl, by simpa [v3s] using hv 2 _ rfl⟩
set_option maxRecDepth 100000 in
set_option maxHeartbeats 8000000 in
theorem SameBlows_eq (p q : Option Addr) (c d : Nat) (l : List V3) (w : World) (hp : V3At w p l) (hq : V3At w q l) (hn : l.length ≤ 1000) : Calls Tryd.prog 27 #[.slice p l.length c, .slice q l.length d] w (Gives (.bool true) w) := by
  replace hp := Go.Lib.hid hp
  replace hq := Go.Lib.hid hq
  go_enter Tryd.func27, Tryd.ntmps27
  go_wp2_with (first | ((first | with_reducible refine wp_region_ext2 (by kernel_rfl) (by kernel_rfl) ?_ | with_reducible refine wp_region_ext (by kernel_rfl) (by kernel_rfl) ?_); (repeat (first | go_big_quiet_step ((first | fail)) | quiet_step ((first | fail)))); refine wpQuiet_nil ?_; rintro _ ⟨yr, rfl⟩; have syr := Ext.size yr; (repeat (first | rw [World.size_alloc] at syr | rw [World.size_setCell] at syr | rw [World.size_drew] at syr))))
  go_loopw [5] (fun s W => ∃ (i : Nat) (x : Ext w), s = .int .i64 i ∧ W = x.now ∧ Hid (i ≤ l.length)) (fun s _ => l.length - (intOf s).toNat)
  case atStart => exact ⟨0, ⟨w, Below.refl _ _⟩, rfl, rfl, Go.Lib.hid (Nat.zero_le _)⟩
  case round =>
    obtain ⟨i, x, rfl, rfl, hi⟩ := hrel
    have xs := x.size
    by_cases hlt : i < l.length
    · have hlt2 : (i : Int) < l.length := by omega
      obtain ⟨B, o, rfl, hB, c1, c2, c3⟩ := hp.out i hlt
      obtain ⟨B', o', rfl, hB', d1, d2, d3⟩ := hq.out i hlt
      have hi1000 : i ≤ 1000 := by omega
      clear hi
      generalize l[i].a = t1 at *
      generalize l[i].b = t2 at *
      generalize l[i].c = t3 at *
      go_wp2_with (first | ((first | with_reducible refine wp_region_ext2 (by kernel_rfl) (by kernel_rfl) ?_ | with_reducible refine wp_region_ext (by kernel_rfl) (by kernel_rfl) ?_); (repeat (first | go_big_quiet_step ((first | fail)) | quiet_step ((first | fail)))); refine wpQuiet_nil ?_; rintro _ ⟨yr, rfl⟩; have syr := Ext.size yr; (repeat (first | rw [World.size_alloc] at syr | rw [World.size_setCell] at syr | rw [World.size_drew] at syr)); have : B < yr.now.heap.size := (by omega); have : B ≤ yr.now.heap.size := (by omega); have : B < yr.now.heap.size + 1 + 1 := (by omega); have : B' < yr.now.heap.size := (by omega); have : B' ≤ yr.now.heap.size := (by omega); have : B' < yr.now.heap.size + 1 + 1 := (by omega)))
      refine ⟨⟨i + 1, ⟨yr.now, ?_⟩, by simp, rfl, Go.Lib.hid (by omega)⟩, by simp [intOf]; omega⟩
      repeat' (first | (with_reducible exact Below.refl _ _) | (with_reducible assumption) | (with_reducible refine Ext.below _ ?_ ?_) | (with_reducible refine Below.on ?_ (by with_reducible assumption) ?_) | (with_reducible refine Below.alloc ?_ ?_ _) | (with_reducible refine Below.drew ?_) | (with_reducible refine Below.setCell ?_ ?_ _) | (with_reducible exact Nat.le_refl _) | omega | (simp; done) | (simp [go_sem]; done) | (simp at *; omega))
    · have hge : ¬ (i : Int) < l.length := by omega
      clear hi
      go_wp2_with (first | ((first | with_reducible refine wp_region_ext2 (by kernel_rfl) (by kernel_rfl) ?_ | with_reducible refine wp_region_ext (by kernel_rfl) (by kernel_rfl) ?_); (repeat (first | go_big_quiet_step ((first | fail)) | quiet_step ((first | fail)))); refine wpQuiet_nil ?_; rintro _ ⟨yr, rfl⟩; have syr := Ext.size yr; (repeat (first | rw [World.size_alloc] at syr | rw [World.size_setCell] at syr | rw [World.size_drew] at syr))))
      go_returns
      refine ⟨rfl, ?_⟩
      repeat' (first | (with_reducible exact Below.refl _ _) | (with_reducible assumption) | (with_reducible refine Ext.below _ ?_ ?_) | (with_reducible refine Below.on ?_ (by with_reducible assumption) ?_) | (with_reducible refine Below.alloc ?_ ?_ _) | (with_reducible refine Below.drew ?_) | (with_reducible refine Below.setCell ?_ ?_ _) | (with_reducible exact Nat.le_refl _) | omega | (simp; done) | (simp [go_sem]; done) | (simp at *; omega))
end Go.Proofs.YtlmhbggigbmeaaaDoor

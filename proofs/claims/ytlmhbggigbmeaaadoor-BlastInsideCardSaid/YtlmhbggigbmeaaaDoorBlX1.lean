/- Tolls and blows as mathematics, for the statements that need no reference: the first of the greatest tolls; a rock inside another one has its blows inside the other's. No condition but valid things. -/
import Derived.Test.YtlmhbggigbmeaaaDoorBlV8G
import Derived.Test.YtlmhbggigbmeaaaDoorBlSpG
import Derived.Test.YtlmhbggigbmeaaaDoorBlAG
import Derived.Test.YtlmhbggigbmeaaaDoorBlLo
namespace Go.Proofs.YtlmhbggigbmeaaaDoor
open Go.RowKit Go.Shelf
theorem best_max (T : List V2) : ∀ n i, i < n → (T.getD i ⟨0, 0⟩).y ≤ (T.getD (bestI T n) ⟨0, 0⟩).y
  | 0, i, h => absurd h (Nat.not_lt_zero _)
  | n + 1, i, h => by
    have ih := best_max T n
    unfold bestI
    by_cases q : (T.getD (bestI T n) ⟨0, 0⟩).y < (T.getD n ⟨0, 0⟩).y
    · rw [if_pos q]
      by_cases e : i = n
      · subst e; exact Int.le_refl _
      · have := ih i (by omega); omega
    · rw [if_neg q]
      by_cases e : i = n
      · subst e; omega
      · exact ih i (by omega)
theorem best_first (T : List V2) : ∀ n i, i < bestI T n → (T.getD i ⟨0, 0⟩).y < (T.getD (bestI T n) ⟨0, 0⟩).y
  | 0, i, h => absurd h (Nat.not_lt_zero _)
  | n + 1, i, h => by
    have im := best_max T n
    have ih := best_first T n
    unfold bestI at h ⊢
    by_cases q : (T.getD (bestI T n) ⟨0, 0⟩).y < (T.getD n ⟨0, 0⟩).y
    · rw [if_pos q] at h ⊢
      have := im i h
      omega
    · rw [if_neg q] at h ⊢
      exact ih i h
theorem tollsL_at (s : SceneR) (L : List V3) : ∀ (n : Nat) (a : Int) (i : Nat), i < n → (s.tollsL L a n).getD i ⟨0, 0⟩ = ⟨s.lows (a + i) L, s.highs (a + i) L⟩
  | 0, _, i, h => absurd h (Nat.not_lt_zero _)
  | n + 1, a, 0, _ => by rw [SceneR.tollsL, List.getD_cons_zero]; simp
  | n + 1, a, i + 1, h => by
    rw [SceneR.tollsL, List.getD_cons_succ, tollsL_at s L n (a + 1) i (by omega), show a + 1 + (i : Int) = a + ((i + 1 : Nat) : Int) by omega]
theorem tollsL_mem (s : SceneR) (L : List V3) : ∀ (n : Nat) (a : Int) (v : V2), v ∈ s.tollsL L a n ↔ ∃ i : Nat, i < n ∧ v = ⟨s.lows (a + i) L, s.highs (a + i) L⟩
  | 0, _, v => by simp [SceneR.tollsL]
  | n + 1, a, v => by
    rw [SceneR.tollsL, List.mem_cons, tollsL_mem s L n (a + 1) v]
    constructor
    · rintro (rfl | ⟨i, hi, rfl⟩)
      · exact ⟨0, by omega, by simp⟩
      · exact ⟨i + 1, by omega, by rw [show a + 1 + (i : Int) = a + ((i + 1 : Nat) : Int) by omega]⟩
    · rintro ⟨i, hi, rfl⟩
      cases i with
      | zero => left; simp
      | succ i => right; exact ⟨i, by omega, by rw [show a + 1 + (i : Int) = a + ((i + 1 : Nat) : Int) by omega]⟩
theorem lowsF_le (s : SceneR) (a : Int) : ∀ (L : List V3) (m : Int), s.lowsF a m L ≤ m ∧ ∀ b ∈ L, s.lowsF a m L ≤ s.lo a b
  | [], m => ⟨Int.le_refl _, fun b hb => by cases hb⟩
  | c :: L, m => by
    obtain ⟨h1, h2⟩ := lowsF_le s a L (min m (s.lo a c))
    rw [SceneR.lowsF]
    refine ⟨by omega, fun b hb => ?_⟩
    rcases List.mem_cons.1 hb with rfl | hb
    · omega
    · exact h2 b hb
theorem highsF_le (s : SceneR) (a : Int) : ∀ (L : List V3) (m : Int), m ≤ s.highsF a m L ∧ ∀ b ∈ L, s.hi a b ≤ s.highsF a m L
  | [], m => ⟨Int.le_refl _, fun b hb => by cases hb⟩
  | c :: L, m => by
    obtain ⟨h1, h2⟩ := highsF_le s a L (max m (s.hi a c))
    rw [SceneR.highsF]
    refine ⟨by omega, fun b hb => ?_⟩
    rcases List.mem_cons.1 hb with rfl | hb
    · omega
    · exact h2 b hb
theorem lows_le (s : SceneR) (a : Int) {L : List V3} {b : V3} (hb : b ∈ L) : s.lows a L ≤ s.lo a b := by
  cases L with
  | nil => cases hb
  | cons c L =>
    rw [SceneR.lows]
    rcases List.mem_cons.1 hb with rfl | hb
    · exact (lowsF_le s a L _).1
    · exact (lowsF_le s a L _).2 b hb
theorem highs_le (s : SceneR) (a : Int) {L : List V3} {b : V3} (hb : b ∈ L) : s.hi a b ≤ s.highs a L := by
  cases L with
  | nil => cases hb
  | cons c L =>
    rw [SceneR.highs]
    rcases List.mem_cons.1 hb with rfl | hb
    · exact (highsF_le s a L _).1
    · exact (highsF_le s a L _).2 b hb
theorem lowsF_ge (s : SceneR) (a m : Int) : ∀ (L : List V3) (k : Int), m ≤ k → (∀ b ∈ L, m ≤ s.lo a b) → m ≤ s.lowsF a k L
  | [], _, h, _ => h
  | c :: L, k, h, hb => by
    rw [SceneR.lowsF]
    have := hb c (by simp)
    exact lowsF_ge s a m L _ (by omega) fun b h => hb b (by simp [h])
theorem highsF_ge (s : SceneR) (a m : Int) : ∀ (L : List V3) (k : Int), k ≤ m → (∀ b ∈ L, s.hi a b ≤ m) → s.highsF a k L ≤ m
  | [], _, h, _ => h
  | c :: L, k, h, hb => by
    rw [SceneR.highsF]
    have := hb c (by simp)
    exact highsF_ge s a m L _ (by omega) fun b h => hb b (by simp [h])
theorem lows_ge (s : SceneR) (a m : Int) {L : List V3} (hL : L ≠ []) (hb : ∀ b ∈ L, m ≤ s.lo a b) : m ≤ s.lows a L := by
  cases L with
  | nil => exact absurd rfl hL
  | cons c L => exact lowsF_ge s a m L _ (hb c (by simp)) fun b h => hb b (by simp [h])
theorem highs_ge (s : SceneR) (a m : Int) {L : List V3} (hL : L ≠ []) (hb : ∀ b ∈ L, s.hi a b ≤ m) : s.highs a L ≤ m := by
  cases L with
  | nil => exact absurd rfl hL
  | cons c L => exact highsF_ge s a m L _ (hb c (by simp)) fun b h => hb b (by simp [h])
theorem minsF_le : ∀ (L : List V2) (m : Int), minsF m L ≤ m ∧ ∀ v ∈ L, minsF m L ≤ v.x
  | [], m => ⟨Int.le_refl _, fun b hb => by cases hb⟩
  | c :: L, m => by
    obtain ⟨h1, h2⟩ := minsF_le L (min m c.x)
    rw [minsF]
    refine ⟨by omega, fun b hb => ?_⟩
    rcases List.mem_cons.1 hb with rfl | hb
    · omega
    · exact h2 b hb
theorem maxsF_le : ∀ (L : List V2) (m : Int), m ≤ maxsF m L ∧ ∀ v ∈ L, v.y ≤ maxsF m L
  | [], m => ⟨Int.le_refl _, fun b hb => by cases hb⟩
  | c :: L, m => by
    obtain ⟨h1, h2⟩ := maxsF_le L (max m c.y)
    rw [maxsF]
    refine ⟨by omega, fun b hb => ?_⟩
    rcases List.mem_cons.1 hb with rfl | hb
    · omega
    · exact h2 b hb
theorem minsV_le {L : List V2} {v : V2} (hv : v ∈ L) : minsV L ≤ v.x := by
  cases L with
  | nil => cases hv
  | cons c L =>
    rw [minsV]
    rcases List.mem_cons.1 hv with rfl | hv
    · exact (minsF_le L _).1
    · exact (minsF_le L _).2 v hv
theorem maxsV_le {L : List V2} {v : V2} (hv : v ∈ L) : v.y ≤ maxsV L := by
  cases L with
  | nil => cases hv
  | cons c L =>
    rw [maxsV]
    rcases List.mem_cons.1 hv with rfl | hv
    · exact (maxsF_le L _).1
    · exact (maxsF_le L _).2 v hv
theorem minsF_ge (m : Int) : ∀ (L : List V2) (k : Int), m ≤ k → (∀ v ∈ L, m ≤ v.x) → m ≤ minsF k L
  | [], _, h, _ => h
  | c :: L, k, h, hb => by
    rw [minsF]
    have := hb c (by simp)
    exact minsF_ge m L _ (by omega) fun b h => hb b (by simp [h])
theorem maxsF_ge (m : Int) : ∀ (L : List V2) (k : Int), k ≤ m → (∀ v ∈ L, v.y ≤ m) → maxsF k L ≤ m
  | [], _, h, _ => h
  | c :: L, k, h, hb => by
    rw [maxsF]
    have := hb c (by simp)
    exact maxsF_ge m L _ (by omega) fun b h => hb b (by simp [h])
theorem minsV_ge {m : Int} {L : List V2} (hL : L ≠ []) (hb : ∀ v ∈ L, m ≤ v.x) : m ≤ minsV L := by
  cases L with
  | nil => exact absurd rfl hL
  | cons c L => exact minsF_ge m L _ (hb c (by simp)) fun b h => hb b (by simp [h])
theorem maxsV_ge {m : Int} {L : List V2} (hL : L ≠ []) (hb : ∀ v ∈ L, v.y ≤ m) : maxsV L ≤ m := by
  cases L with
  | nil => exact absurd rfl hL
  | cons c L => exact maxsF_ge m L _ (hb c (by simp)) fun b h => hb b (by simp [h])
/-- The scene that tolls speak of. -/
def sceneV (l g : List V2) (x : LandR) : SceneR := ⟨none, l.length, 0, none, 0, g, x⟩
theorem blows_air {l : List V2} {k : RockR} {f : FallR} (h : blowsE l k f = 0) : airE l = 0 ∧ rockE k f = 0 := by
  unfold blowsE at h
  by_cases q : airE l = 0
  · rw [if_neg (by simpa using q)] at h
    exact ⟨q, h⟩
  · rw [if_pos q] at h; exact absurd h q
theorem most_highs (s : SceneR) (a : Int) (b : V3) (r : List V3) (h : 0 ≤ s.hi a b) : s.highsF a (-1) (b :: r) = s.highs a (b :: r) := by
  rw [SceneR.highsF, SceneR.highs, show max (-1) (s.hi a b) = s.hi a b by omega]
/-- The worst cell: where it lies, and that there, and at no cell before it, the greatest harm is reached. -/
theorem worst_cell {l g : List V2} {x : LandR} {k : RockR} {f : FallR} {a b : Int} (h : tollE l g x k f a b = 0) :
    ∃ n : Nat, worstV l g x k f a b = a + n ∧ a + n ≤ b ∧ ∀ i : Nat, i ≤ n → ((sceneV l g x).highsF (a + i) (-1) (v3s (blowsA l k f)) = maxsV (tollsV l g x k f a b) ↔ i = n) := by
  obtain ⟨hE, hS, h0, h1, h2⟩ := tollE_in h
  obtain ⟨hgk, hxk⟩ := sceneE_ok hS
  obtain ⟨c, q, hbr, -, hbk⟩ := blowsA_ok hE
  have hT : tollsV l g x k f a b = (sceneV l g x).tollsL (c :: q) a ((b - a).toNat + 1) := by
    unfold tollsV
    rw [if_pos h, hbr]
    rfl
  have hlen := tollsL_len (sceneV l g x) (c :: q) ((b - a).toNat + 1) a
  have hbest := bestI_lt ((sceneV l g x).tollsL (c :: q) a ((b - a).toNat + 1)) (by omega) ((b - a).toNat + 1) (by omega)
  have hmax := (cells_toll (sceneV l g x) c q a (b - a).toNat).2
  have hfirst := best_first ((sceneV l g x).tollsL (c :: q) a ((b - a).toNat + 1)) ((b - a).toNat + 1)
  refine ⟨bestI ((sceneV l g x).tollsL (c :: q) a ((b - a).toNat + 1)) ((b - a).toNat + 1), ?_, by omega, fun i hi => ?_⟩
  · unfold worstV
    rw [if_pos h, hT, hlen]
  · have ho := (sceneV l g x).bounds (a := a + i) (b := c) ⟨(air_ok (blows_air hE).1).1, hgk, hxk⟩ (by omega) (by simp only [sceneV]; omega) (hbk c (by simp))
    rw [hT, hbr, most_highs _ _ _ _ (by omega), ← hmax]
    have hat := tollsL_at (sceneV l g x) (c :: q) ((b - a).toNat + 1) a i (by omega)
    have e : (sceneV l g x).highs (a + i) (c :: q) = (((sceneV l g x).tollsL (c :: q) a ((b - a).toNat + 1)).getD i ⟨0, 0⟩).y := by rw [hat]
    rw [e]
    by_cases hn : i = bestI ((sceneV l g x).tollsL (c :: q) a ((b - a).toNat + 1)) ((b - a).toNat + 1)
    · rw [← hn]; simp
    · have := hfirst i (by omega)
      constructor
      · intro h9; omega
      · intro h9; exact absurd h9 hn
/-- A stone that is heavier, weaker and steeper than another one. -/
theorem el_of {s t : StoneR} (h1 : s.Ok) (h2 : t.Ok) (hp : t.pile = s.pile) (a0 : t.size ≤ s.size) (a1 : t.dens ≤ s.dens) (a2 : s.strong ≤ t.strong) (a3 : t.spin ≤ s.spin) (a4 : s.shape ≤ t.shape) (a6 : t.slope ≤ s.slope) : EarlyLate s t := by
  refine ⟨h1, h2, ?_, ?_, ?_⟩
  · unfold holdsV
    rw [hp]
    split
    · have q1 := h1.strong
      have q2 := h2.strong
      have q3 := h1.spin
      have q4 := h2.spin
      exact Int.ediv_le_ediv (by omega) (Int.mul_le_mul a2 (by omega) (by omega) (by omega))
    · exact a2
  · have q1 := h1.dens
    have q2 := h2.dens
    have q3 := h1.size
    have q4 := h2.size
    unfold dOf
    have := Int.mul_le_mul a1 a0 (by omega) (by omega)
    omega
  · intro v hx hy
    have w1 := way_bounds h1 hx
    have w2 := way_bounds h2 hx
    have q1 := h1.slope
    have q2 := h2.slope
    have q3 := h1.shape
    have q4 := h2.shape
    unfold kOf
    have c1 := cei_anti (n := v.x * 1000) (c := t.slope) (d := s.slope) (by omega) a6 w2.1
    exact Int.mul_le_mul_of_nonneg_left (Int.mul_le_mul c1 a4 (by omega) w2.1) hy.1
theorem mass_of {s t : StoneR} (h1 : s.Ok) (h2 : t.Ok) (a0 : t.size ≤ s.size) (a1 : t.dens ≤ s.dens) : 0 ≤ massV t ∧ massV t ≤ massV s := by
  have q1 := h1.size
  have q2 := h2.size
  have q3 := h1.dens
  have q4 := h2.dens
  obtain ⟨-, -, m5, m6⟩ := mass_bounds h2
  unfold massV at *
  have s1 := Int.mul_le_mul a0 a0 (by omega) (by omega)
  have s0 := Int.mul_nonneg (show 0 ≤ t.size by omega) (show 0 ≤ t.size by omega)
  have s0' := Int.mul_nonneg (show 0 ≤ s.size by omega) (show 0 ≤ s.size by omega)
  have s2 := Int.mul_le_mul s1 a0 (by omega) (by omega)
  have s3 := Int.mul_nonneg s0' (show 0 ≤ s.size by omega)
  exact ⟨by omega, Int.ediv_le_ediv (by omega) (Int.mul_le_mul s2 a1 (by omega) (by omega))⟩
/-- What a rock is that lies inside another one, by their early and late stones. -/
structure Inside4 (s t s' t' : StoneR) : Prop where
  st : EarlyLate s t
  st' : EarlyLate s' t'
  ss : EarlyLate s s'
  tt : EarlyLate t' t
  ms : 0 ≤ massV s' ∧ massV s' ≤ massV s
  mt : 0 ≤ massV t ∧ massV t ≤ massV t'
  mm : massV t' ≤ massV s'
theorem rbl_inside {s t s' t' : StoneR} (h : Inside4 s t s' t') : ∀ (l : List V2) (i : Nat) (we wl we' wl' : Int), (∀ v ∈ l, (1 ≤ v.x ∧ v.x ≤ 1000) ∧ 0 ≤ v.y ∧ v.y ≤ 1000) → 0 ≤ wl → wl ≤ wl' → wl' ≤ we' → we' ≤ we →
    ∀ b' ∈ rblL s' t' l i we' wl', ∃ b ∈ rblL s t l i we wl, b.n = b'.n ∧ b.lo ≤ b'.lo ∧ b'.lo ≤ b'.hi ∧ b'.hi ≤ b.hi
  | [], i, we, wl, we', wl', _, h0, h1, h2, h3, b', hb => by
    simp only [rblL, List.mem_singleton] at hb
    subst hb
    refine ⟨_, List.mem_singleton.2 rfl, rfl, ?_, ?_, ?_⟩
    · exact Int.mul_le_mul h.mt.2 h1 h0 (by have := h.mt; omega)
    · exact Int.mul_le_mul h.mm h2 (by omega) h.ms.1
    · exact Int.mul_le_mul h.ms.2 h3 (by omega) (by have := h.ms; omega)
  | v :: l, i, we, wl, we', wl', hl, h0, h1, h2, h3, b', hb => by
    obtain ⟨hx, hy⟩ := hl v (by simp)
    unfold rblL at hb
    rcases List.mem_append.1 hb with q | q
    · split at q
      · rename_i hb1
        simp only [List.mem_singleton] at q
        subst q
        have hs := burst_late h.ss hy.1 h3 hb1
        refine ⟨⟨i, massV t * wl, massV s * we, burstB t v.y wl⟩, ?_, rfl, ?_, ?_, ?_⟩
        · unfold rblL; rw [if_pos hs]; simp
        · exact Int.mul_le_mul h.mt.2 h1 h0 (by have := h.mt; omega)
        · exact Int.mul_le_mul h.mm h2 (by omega) h.ms.1
        · exact Int.mul_le_mul h.ms.2 h3 (by omega) (by have := h.ms; omega)
      · cases q
    · split at q
      · cases q
      · rename_i hb2
        have ht : ¬ burstB t v.y wl = true := fun q2 => hb2 (burst_late h.tt hy.1 h1 q2)
        obtain ⟨b, hb3, hb4⟩ := rbl_inside h l (i + 1) _ _ _ _ (fun u hu => hl u (by simp [hu])) (stp_nonneg _ _ _) (stp_late h.tt hx hy h0 h1) (stp_late h.st' hx hy (by omega) h2) (stp_late h.ss hx hy (by omega) h3) b' q
        refine ⟨b, ?_, hb4⟩
        unfold rblL
        rw [if_neg ht]
        exact List.mem_append.2 (.inr hb3)
theorem rbl_asc (s t : StoneR) : ∀ (l : List V2) (i : Nat) (we wl : Int), (∀ b ∈ rblL s t l i we wl, i ≤ b.n) ∧ (rblL s t l i we wl).Pairwise (fun a b => a.n < b.n)
  | [], i, we, wl => by simp [rblL]
  | v :: l, i, we, wl => by
    obtain ⟨h1, h2⟩ := rbl_asc s t l (i + 1) (stp we (kOf s v) (dOf s)) (stp wl (kOf t v) (dOf t))
    unfold rblL
    refine ⟨fun b hb => ?_, ?_⟩
    · rcases List.mem_append.1 hb with q | q
      · split at q
        · simp only [List.mem_singleton] at q
          subst q
          exact Nat.le_refl _
        · cases q
      · split at q
        · cases q
        · have := h1 b q; omega
    · rw [List.pairwise_append]
      refine ⟨?_, ?_, fun b hb c hc => ?_⟩
      · split
        · exact List.pairwise_singleton _ _
        · exact List.Pairwise.nil
      · split
        · exact List.Pairwise.nil
        · exact h2
      · split at hb
        · simp only [List.mem_singleton] at hb
          subst hb
          split at hc
          · cases hc
          · have := h1 c hc; simp only; omega
        · cases hb
theorem blows_rbl {l : List V2} {k : RockR} {f : FallR} (h : blowsE l k f = 0) : blowsA l k f = rblL (firstS k f) (lastS k f) l 0 (f.speed.y * f.speed.y) (f.speed.x * f.speed.x) ∧ 0 ≤ f.speed.x ∧ f.speed.x ≤ f.speed.y ∧ 0 ≤ f.speed.x * f.speed.x ∧ f.speed.x * f.speed.x ≤ f.speed.y * f.speed.y := by
  obtain ⟨ha, hr⟩ := blows_air h
  obtain ⟨hl, hair⟩ := air_ok ha
  have el := early_late hr
  have hsp := (rockE_ok hr).2.2.2.2.2.2.2.1
  have q1 := el.lt.speed
  have q2 := el.es.speed
  simp only [firstS, lastS] at q1 q2
  have w0 := Int.mul_nonneg (show 0 ≤ f.speed.x by omega) (show 0 ≤ f.speed.x by omega)
  have w1 := Int.mul_le_mul hsp hsp (show 0 ≤ f.speed.x by omega) (show 0 ≤ f.speed.y by omega)
  refine ⟨?_, by omega, hsp, w0, w1⟩
  unfold blowsA
  rw [if_pos h]
  exact thru_rbl el l 0 _ _ hair w0 w1
/-- A rock with a fall that lies inside another one. -/
structure RockIn (k' : RockR) (f' : FallR) (k : RockR) (f : FallR) : Prop where
  size : k.size.x ≤ k'.size.x ∧ k'.size.y ≤ k.size.y
  dens : k.dens.x ≤ k'.dens.x ∧ k'.dens.y ≤ k.dens.y
  strong : k.strong.x ≤ k'.strong.x ∧ k'.strong.y ≤ k.strong.y
  spin : k.spin.x ≤ k'.spin.x ∧ k'.spin.y ≤ k.spin.y
  shape : k.shape.x ≤ k'.shape.x ∧ k'.shape.y ≤ k.shape.y
  pile : k'.pile = k.pile
  speed : f.speed.x ≤ f'.speed.x ∧ f'.speed.y ≤ f.speed.y
  slope : f.slope.x ≤ f'.slope.x ∧ f'.slope.y ≤ f.slope.y
theorem blows_inside {l : List V2} {k k' : RockR} {f f' : FallR} (h : blowsE l k f = 0) (h' : blowsE l k' f' = 0) (hin : RockIn k' f' k f) : ∀ b' ∈ blowsA l k' f', ∃ b ∈ blowsA l k f, b.n = b'.n ∧ b.lo ≤ b'.lo ∧ b'.lo ≤ b'.hi ∧ b'.hi ≤ b.hi := by
  obtain ⟨e1, p1, p2, p3, p4⟩ := blows_rbl h
  obtain ⟨e2, q1, q2, q3, q4⟩ := blows_rbl h'
  obtain ⟨ha, hr⟩ := blows_air h
  have hr' := (blows_air h').2
  obtain ⟨o1, o2, -⟩ := rockE_ok hr
  obtain ⟨o3, o4, -⟩ := rockE_ok hr'
  have i4 : Inside4 (firstS k f) (lastS k f) (firstS k' f') (lastS k' f') :=
    ⟨early_late hr, early_late hr', el_of o1 o3 hin.pile hin.size.2 hin.dens.2 hin.strong.1 hin.spin.2 hin.shape.1 hin.slope.2, el_of o4 o2 hin.pile.symm hin.size.1 hin.dens.1 hin.strong.2 hin.spin.1 hin.shape.2 hin.slope.1, mass_of o1 o3 hin.size.2 hin.dens.2, mass_of o4 o2 hin.size.1 hin.dens.1, massV_le hr'⟩
  have s1 := Int.mul_le_mul hin.speed.1 hin.speed.1 (show 0 ≤ f.speed.x by omega) (show 0 ≤ f'.speed.x by omega)
  have s2 := Int.mul_le_mul hin.speed.2 hin.speed.2 (show 0 ≤ f'.speed.y by omega) (show 0 ≤ f.speed.y by have := hin.speed; omega)
  rw [e1, e2]
  exact rbl_inside i4 l 0 _ _ _ _ (air_ok ha).2 p3 s1 q4 s2
theorem sole_in {s : StoneR} {k : RockR} {f : FallR} (h : StoneIn s k f) : RockIn (soleK s) (soleF s) k f := ⟨h.size, h.dens, h.strong, h.spin, h.shape, h.pile, h.speed, h.slope⟩
/-- Each stone of a rock ends in a layer of a blow of it, with an energy of this blow. -/
theorem stone_blow {l : List V2} {s : StoneR} {k : RockR} {f : FallR} (h : blowsE l k f = 0) (hs : s.Ok) (hin : StoneIn s k f) : ∃ b ∈ blowsA l k f, (b.n : Int) = (endOf l s).1 ∧ b.lo ≤ massV s * (endOf l s).2 ∧ massV s * (endOf l s).2 ≤ b.hi := by
  obtain ⟨hr, n, hn, hv⟩ := sole_spec l hs
  have hE : blowsE l (soleK s) (soleF s) = 0 := by
    unfold blowsE
    rw [if_neg (by simpa using (blows_air h).1)]
    exact hr
  have hA : blowsA l (soleK s) (soleF s) = blowsV l (soleK s) (soleF s) := by unfold blowsA; rw [if_pos hE]
  have hB := blows_inside h hE (sole_in hin)
  rw [hA] at hB
  unfold v3s at hv
  cases hL : blowsV l (soleK s) (soleF s) with
  | nil => rw [hL] at hv; cases hv
  | cons c r =>
    rw [hL, List.map_cons] at hv
    have hv1 := (List.cons.inj hv).1
    have g1 : (c.n : Int) = n := congrArg V3.a hv1
    have g2 : c.lo = massV s * (endOf l s).2 := congrArg V3.b hv1
    have g3 : c.hi = massV s * (endOf l s).2 := congrArg V3.c hv1
    obtain ⟨b, hb, b1, b2, b3, b4⟩ := hB c (by rw [hL]; simp)
    exact ⟨b, hb, by rw [hn]; omega, by omega, by omega⟩
theorem tolls_of {l g : List V2} {x : LandR} {k : RockR} {f : FallR} {a b : Int} (h : tollE l g x k f a b = 0) : tollsV l g x k f a b = (sceneV l g x).tollsL (v3s (blowsA l k f)) a ((b - a).toNat + 1) := by
  unfold tollsV
  rw [if_pos h]
  rfl
/-- A blow with an energy of one of the rock's blows harms what lies in the toll. -/
theorem toll_in {l g : List V2} {x : LandR} {k : RockR} {f : FallR} {a b at' e : Int} {c : V3} (h : tollE l g x k f a b = 0) (hc : c ∈ v3s (blowsA l k f)) (h1 : c.b ≤ e) (h2 : e ≤ c.c) (h3 : a ≤ at') (h4 : at' ≤ b) :
    minsV (tollsV l g x k f a b) ≤ harmsV l.length g x c.a e at' ∧ harmsV l.length g x c.a e at' ≤ maxsV (tollsV l g x k f a b) := by
  obtain ⟨hE, hS, h0, h5, h6⟩ := tollE_in h
  obtain ⟨hgk, hxk⟩ := sceneE_ok hS
  rw [tolls_of h]
  have hm := (tollsL_mem (sceneV l g x) (v3s (blowsA l k f)) ((b - a).toNat + 1) a ⟨(sceneV l g x).lows at' (v3s (blowsA l k f)), (sceneV l g x).highs at' (v3s (blowsA l k f))⟩).2 ⟨(at' - a).toNat, by omega, by rw [show a + ((at' - a).toNat : Int) = at' by omega]⟩
  have l1 := minsV_le hm
  have l2 := maxsV_le hm
  have l3 := lows_le (sceneV l g x) at' hc
  have l4 := highs_le (sceneV l g x) at' hc
  have l5 := harmsV_le (n := l.length) (layer := c.a) (a := at') hgk hxk (by omega) (by omega) h1
  have l6 := harmsV_le (n := l.length) (layer := c.a) (a := at') hgk hxk (by omega) (by omega) h2
  simp only [SceneR.lo, SceneR.hi, sceneV] at *
  omega
theorem v3_mem {l : List BlowR} {c : V3} : c ∈ v3s l ↔ ∃ b ∈ l, (⟨b.n, b.lo, b.hi⟩ : V3) = c := by unfold v3s; exact List.mem_map
/-- The toll of a rock inside another one, on a stretch inside the other's, lies inside. -/
theorem toll_inside {l g : List V2} {x : LandR} {k k' : RockR} {f f' : FallR} {a b a' b' : Int} (h : tollE l g x k f a b = 0) (h' : tollE l g x k' f' a' b' = 0) (ha : a ≤ a') (hb : b' ≤ b) (hin : ∀ c' ∈ v3s (blowsA l k' f'), ∃ c ∈ v3s (blowsA l k f), c.a = c'.a ∧ c.b ≤ c'.b ∧ c'.b ≤ c'.c ∧ c'.c ≤ c.c) :
    minsV (tollsV l g x k f a b) ≤ minsV (tollsV l g x k' f' a' b') ∧ minsV (tollsV l g x k' f' a' b') ≤ maxsV (tollsV l g x k' f' a' b') ∧ maxsV (tollsV l g x k' f' a' b') ≤ maxsV (tollsV l g x k f a b) := by
  obtain ⟨hE, hS, h0, h5, h6⟩ := tollE_in h'
  obtain ⟨v, r, hvr, -, hok⟩ := tollsV_ok h'
  obtain ⟨d, q, hbr, -, -⟩ := blowsA_ok hE
  have hne : tollsV l g x k' f' a' b' ≠ [] := by rw [hvr]; simp
  have hne2 : v3s (blowsA l k' f') ≠ [] := by rw [hbr]; simp
  have hT := tolls_of h'
  refine ⟨minsV_ge hne fun u hu => ?_, ?_, maxsV_ge hne fun u hu => ?_⟩
  · rw [hT] at hu
    obtain ⟨i, hi, rfl⟩ := (tollsL_mem _ _ _ _ _).1 hu
    refine lows_ge _ _ _ hne2 fun c' hc' => ?_
    obtain ⟨c, hc, e1, e2, e3, e4⟩ := hin c' hc'
    have := (toll_in (at' := a' + i) h hc e2 (by omega) (by omega) (by omega)).1
    rw [e1] at this
    exact this
  · have hv := hok v (by simp)
    have := minsV_le (L := tollsV l g x k' f' a' b') (v := v) (by rw [hvr]; simp)
    have := maxsV_le (L := tollsV l g x k' f' a' b') (v := v) (by rw [hvr]; simp)
    have := hv.le
    omega
  · rw [hT] at hu
    obtain ⟨i, hi, rfl⟩ := (tollsL_mem _ _ _ _ _).1 hu
    refine highs_ge _ _ _ hne2 fun c' hc' => ?_
    obtain ⟨c, hc, e1, e2, e3, e4⟩ := hin c' hc'
    have := (toll_in (at' := a' + i) h hc (by omega : c.b ≤ c'.c) e4 (by omega) (by omega)).2
    rw [e1] at this
    exact this
/-- What statements make of numbers is valid. -/
theorem rock_ok {k : RockR} {f : FallR} (h : RockOk k f) : rockE k f = 0 := by
  have e : ∀ (v : V2) (m1 m2 : Int), v.x ≤ v.y → m1 ≤ v.x → v.y ≤ m2 → spE v ⟨m1, m2⟩ = 0 := fun v m1 m2 h1 h2 h3 => by
    unfold spE
    simp only
    rw [if_neg (by omega), if_pos ⟨h2, h3⟩]
  have h1 := h.size
  have h2 := h.dens
  have h3 := h.strong
  have h4 := h.spin
  have h5 := h.shape
  have h6 := h.speed
  have h7 := h.slope
  unfold rockE spansL limsL
  simp only [firstE, e k.size 1 1000 (by omega) (by omega) (by omega), e k.dens 1 9000 (by omega) (by omega) (by omega), e k.strong 0 1099511627776 (by omega) (by omega) (by omega), e k.spin 0 1000 (by omega) (by omega) (by omega), e k.shape 500 2000 (by omega) (by omega) (by omega), e f.speed 1 8000 (by omega) (by omega) (by omega), e f.slope 1 1000 (by omega) (by omega) (by omega), if_true]
theorem lays_ok {l : List V2} (h : LaysOk l) : airE l = 0 := airE_ok (by have := h.len; omega) (fun v hv => by have := h.all v hv; omega)
theorem blowsE_of {l : List V2} {k : RockR} {f : FallR} (h1 : LaysOk l) (h2 : RockOk k f) : blowsE l k f = 0 := by
  unfold blowsE
  rw [if_neg (by simpa using lays_ok h1)]
  exact rock_ok h2
theorem sceneE_of {g : List V2} {x : LandR} (h1 : GradesOk g) (h2 : x.Ok) : sceneE g x = 0 := by
  unfold sceneE
  rw [if_neg (by simpa using gradesE_of h1)]
  exact h2.e
theorem tollE_of {l g : List V2} {x : LandR} {k : RockR} {f : FallR} {a b : Int} (h1 : blowsE l k f = 0) (h2 : sceneE g x = 0) (h3 : 0 ≤ a) (h4 : a ≤ b) (h5 : b < x.pl.length) : tollE l g x k f a b = 0 := by
  unfold tollE
  rw [if_neg (by simpa using h1), if_neg (by simpa using h2), if_neg (by simp; omega), if_neg (by omega)]
theorem harmsE_of {l g : List V2} {x : LandR} {layer a : Int} (h1 : airE l = 0) (h2 : sceneE g x = 0) (h3 : 0 ≤ layer) (h4 : layer ≤ l.length) (h5 : 0 ≤ a) (h6 : a < x.pl.length) : harmsE l g x layer a = 0 := by
  unfold harmsE
  rw [if_neg (by simpa using h1), if_neg (by simpa using h2), if_neg (by omega), if_pos ⟨h5, h6⟩]
theorem harmsA_of {l g : List V2} {x : LandR} {layer e a : Int} (h : harmsE l g x layer a = 0) : harmsA l g x layer e a = harmsV l.length g x layer e a := by
  unfold harmsA
  rw [if_pos h]
theorem LandOwn.onX {W W' : World} {base b : Nat} {x : LandR} (h : LandOwn W base x) (hb : b < base) (k : BelowX b W.heap.size W W') : LandOwn W' base x := ⟨owns_belowX h.n hb k, owns_belowX h.b hb k, h.len⟩
end Go.Proofs.YtlmhbggigbmeaaaDoor

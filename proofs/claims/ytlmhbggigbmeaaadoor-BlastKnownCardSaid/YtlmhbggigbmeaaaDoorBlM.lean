/- Rocks, stones, airs and lands as plain mathematics: falls through layers, sums over cells, and how far waves run. No condition. -/
import Derived.Test.YtlmhbggigbmeaaaDoorRingXG
namespace Go.Proofs.YtlmhbggigbmeaaaDoor
open Go.RowKit Go.Shelf
theorem wp_named {c : Code} {P : Program} {Q : Exit → Act → World → Prop} {a : Act} {w : World} (h : ∀ W0, w = W0 → c.wp P Q a W0) : c.wp P Q a w := h w rfl
structure StoneR where
  size : Int
  dens : Int
  strong : Int
  spin : Int
  shape : Int
  pile : Bool
  speed : Int
  slope : Int
def StoneR.vals (s : StoneR) : Array Value := #[.int .i64 s.size, .int .i64 s.dens, .int .i64 s.strong, .int .i64 s.spin, .int .i64 s.shape, .bool s.pile, .int .i64 s.speed, .int .i64 s.slope]
def StoneR.val (s : StoneR) : Value := .agg s.vals
structure RockR where
  size : V2
  dens : V2
  strong : V2
  spin : V2
  shape : V2
  pile : Bool
def RockR.val (k : RockR) : Value := .agg #[.int .i64 k.size.x, .int .i64 k.size.y, .int .i64 k.dens.x, .int .i64 k.dens.y, .int .i64 k.strong.x, .int .i64 k.strong.y, .int .i64 k.spin.x, .int .i64 k.spin.y, .int .i64 k.shape.x, .int .i64 k.shape.y, .bool k.pile]
structure FallR where
  speed : V2
  slope : V2
def FallR.val (f : FallR) : Value := .agg #[.int .i64 f.speed.x, .int .i64 f.speed.y, .int .i64 f.slope.x, .int .i64 f.slope.y]
/-- The numbers that a stone may have. -/
def inB2 (a b n : Int) : Prop := a ≤ n ∧ n ≤ b
structure StoneR.Ok (s : StoneR) : Prop where
  size : 1 ≤ s.size ∧ s.size ≤ 1000
  dens : 1 ≤ s.dens ∧ s.dens ≤ 9000
  strong : 0 ≤ s.strong ∧ s.strong ≤ 1099511627776
  spin : 0 ≤ s.spin ∧ s.spin ≤ 1000
  shape : 500 ≤ s.shape ∧ s.shape ≤ 2000
  speed : 1 ≤ s.speed ∧ s.speed ≤ 8000
  slope : 1 ≤ s.slope ∧ s.slope ≤ 1000
def stoneB (s : StoneR) : Bool := decide ((1 ≤ s.size ∧ s.size ≤ 1000) ∧ (1 ≤ s.dens ∧ s.dens ≤ 9000) ∧ (0 ≤ s.strong ∧ s.strong ≤ 1099511627776) ∧ (0 ≤ s.spin ∧ s.spin ≤ 1000) ∧ (500 ≤ s.shape ∧ s.shape ≤ 2000) ∧ (1 ≤ s.speed ∧ s.speed ≤ 8000) ∧ (1 ≤ s.slope ∧ s.slope ≤ 1000))
theorem stoneB_ok {s : StoneR} : stoneB s = true ↔ s.Ok := by
  unfold stoneB
  simp only [decide_eq_true_eq]
  exact ⟨fun ⟨a, b, c, d, e, f, g⟩ => ⟨a, b, c, d, e, f, g⟩, fun ⟨a, b, c, d, e, f, g⟩ => ⟨a, b, c, d, e, f, g⟩⟩
def stoneE (s : StoneR) : Int := if stoneB s = true then 0 else 2
def massV (s : StoneR) : Int := s.size * s.size * s.size * s.dens / 1000
def holdsV (s : StoneR) : Int := if s.pile = true then s.strong * (1000 - s.spin) / 1000 else s.strong
def massI (s : StoneR) : Int := if stoneB s = true then massV s else 0
def holdsI (s : StoneR) : Int := if stoneB s = true then holdsV s else 0
def lysE : List V2 → Int
  | [] => 0
  | v :: l => if (1 ≤ v.x ∧ v.x ≤ 1000) ∧ 0 ≤ v.y ∧ v.y ≤ 1000 then lysE l else 2
def airE (l : List V2) : Int := if 32 < l.length then 8 else lysE l
theorem lysE_ok {l : List V2} : lysE l = 0 ↔ ∀ v ∈ l, (1 ≤ v.x ∧ v.x ≤ 1000) ∧ 0 ≤ v.y ∧ v.y ≤ 1000 := by
  induction l with
  | nil => simp [lysE]
  | cons v l ih =>
    unfold lysE
    split
    · rename_i h; rw [ih]; simp [h]
    · rename_i h
      simp only [List.mem_cons, forall_eq_or_imp, h, false_and, iff_false]
      decide
/-- What is left of w behind a layer. -/
def stp (w k d : Int) : Int := w - min (w * k / d) w
theorem stp_eq (w k d : Int) : stp w k d = max (w - w * k / d) 0 := by unfold stp; omega
theorem stp_nonneg (w k d : Int) : 0 ≤ stp w k d := by rw [stp_eq]; omega
theorem stp_le {w k d : Int} (hw : 0 ≤ w) (hk : 0 ≤ k) (hd : 0 < d) : stp w k d ≤ w := by
  have := Int.ediv_nonneg (Int.mul_nonneg hw hk) (Int.le_of_lt hd)
  rw [stp_eq]; omega
theorem div_mono_num {a b d : Int} (h : a ≤ b) (hd : 0 < d) : a / d ≤ b / d := Int.ediv_le_ediv hd h
theorem div_anti {a d e : Int} (ha : 0 ≤ a) (hd : 0 < d) (h : d ≤ e) : a / e ≤ a / d := by
  have he : 0 < e := by omega
  refine (Int.le_ediv_iff_mul_le hd).2 ?_
  have h1 : 0 ≤ a / e := Int.ediv_nonneg ha (by omega)
  have h2 := Int.mul_le_mul_of_nonneg_left h h1
  have h3 := Int.ediv_mul_le a (show e ≠ 0 by omega)
  omega
theorem stp_k {w k k' d : Int} (hw : 0 ≤ w) (h : k' ≤ k) (hd : 0 < d) : stp w k d ≤ stp w k' d := by
  have := div_mono_num (Int.mul_le_mul_of_nonneg_left h hw) hd
  rw [stp_eq, stp_eq]; omega
theorem stp_d {w k d d' : Int} (hw : 0 ≤ w) (hk : 0 ≤ k) (hd : 0 < d) (h : d ≤ d') : stp w k d ≤ stp w k d' := by
  have := div_anti (Int.mul_nonneg hw hk) hd h
  rw [stp_eq, stp_eq]; omega
theorem stp_w {w w' k d : Int} (hw : 0 ≤ w) (h : w ≤ w') (hd : 0 < d) : stp w k d ≤ stp w' k d := by
  rw [stp_eq, stp_eq]
  rcases Int.le_total k d with h1 | h1
  · have e : w' * k ≤ w * k + (w' - w) * d := by
      have := Int.mul_le_mul_of_nonneg_left h1 (show 0 ≤ w' - w by omega)
      have e2 : w' * k = w * k + (w' - w) * k := by grind
      omega
    have h2 := div_mono_num e hd
    rw [Int.add_mul_ediv_right _ _ (show d ≠ 0 by omega)] at h2
    omega
  · have e : w * d ≤ w * k := Int.mul_le_mul_of_nonneg_left h1 hw
    have h2 := (Int.le_ediv_iff_mul_le hd).2 e
    omega
theorem stp_mono {w w' k k' d d' : Int} (hw : 0 ≤ w) (h : w ≤ w') (hk : 0 ≤ k') (h1 : k' ≤ k) (hd : 0 < d) (h2 : d ≤ d') : stp w k d ≤ stp w' k' d' := by
  have a := stp_k hw h1 hd
  have b := stp_d hw hk hd h2
  have c := stp_w (k := k') hw h (show 0 < d' by omega)
  omega
/-- In which layer a stone ends, and its w there. -/
def fallI (h : Int) (K : V2 → Int) (D : Int) : List V2 → Int → Int → Int × Int
  | [], n, w => (n, w)
  | v :: l, n, w => if 0 < v.y * w ∧ h ≤ v.y * w then (n, w) else fallI h K D l (n + 1) (stp w (K v) D)
theorem fall_ge (h : Int) (K : V2 → Int) (D : Int) : ∀ (l : List V2) (n w : Int), n ≤ (fallI h K D l n w).1
  | [], n, w => by simp [fallI]
  | v :: l, n, w => by
    unfold fallI
    split
    · simp
    · have := fall_ge h K D l (n + 1) (stp w (K v) D); omega
theorem fall_strong {h h' : Int} (hh : h ≤ h') (K : V2 → Int) (D : Int) : ∀ (l : List V2) (n w : Int), (fallI h K D l n w).1 ≤ (fallI h' K D l n w).1
  | [], n, w => by simp [fallI]
  | v :: l, n, w => by
    unfold fallI
    by_cases h1 : 0 < v.y * w ∧ h ≤ v.y * w
    · rw [if_pos h1]
      exact fall_ge h' K D (v :: l) n w
    · rw [if_neg h1, if_neg (by omega)]
      exact fall_strong hh K D l _ _
theorem fall_fast {h : Int} {K : V2 → Int} {D : Int} (hD : 0 < D) : ∀ (l : List V2) (n w w' : Int), (∀ v ∈ l, 0 ≤ v.y ∧ 0 ≤ K v) → 0 ≤ w → w ≤ w' → (fallI h K D l n w').1 ≤ (fallI h K D l n w).1
  | [], n, w, w', _, _, _ => by simp [fallI]
  | v :: l, n, w, w', hl, h0, hw => by
    obtain ⟨hv, hK⟩ := hl v (by simp)
    have h2 := Int.mul_le_mul_of_nonneg_left hw hv
    by_cases h1 : 0 < v.y * w ∧ h ≤ v.y * w
    · have h3 : 0 < v.y * w' ∧ h ≤ v.y * w' := by omega
      unfold fallI
      rw [if_pos h1, if_pos h3]; exact Int.le_refl _
    · have := fall_ge h K D (v :: l) n w
      by_cases h3 : 0 < v.y * w' ∧ h ≤ v.y * w'
      · rw [show fallI h K D (v :: l) n w' = (n, w') by unfold fallI; rw [if_pos h3]]; exact this
      · unfold fallI
        rw [if_neg h1, if_neg h3]
        exact fall_fast hD l _ _ _ (fun u hu => hl u (by simp [hu])) (stp_nonneg _ _ _) (stp_mono h0 hw hK (Int.le_refl _) hD (Int.le_refl _))
theorem fall_thick {h : Int} {K : V2 → Int} {D : Int} (hD : 0 < D) (f : V2 → V2) (hf : ∀ v, (f v).y = v.y) : ∀ (l : List V2) (n w w' : Int), (∀ v ∈ l, 0 ≤ v.y ∧ 0 ≤ K v ∧ K v ≤ K (f v)) → 0 ≤ w' → w' ≤ w →
    (fallI h K D l n w).1 ≤ (fallI h K D (l.map f) n w').1 ∧ ((fallI h K D (l.map f) n w').1 = (fallI h K D l n w).1 → (fallI h K D (l.map f) n w').2 ≤ (fallI h K D l n w).2)
  | [], n, w, w', _, _, hw => by simp [fallI, hw]
  | v :: l, n, w, w', hl, h0, hw => by
    obtain ⟨hv, hK, hK2⟩ := hl v (by simp)
    have h2 := Int.mul_le_mul_of_nonneg_left hw hv
    have h4 := fall_ge h K D (l.map f) (n + 1) (stp w' (K (f v)) D)
    simp only [List.map_cons]
    unfold fallI
    rw [hf v]
    by_cases h1 : 0 < v.y * w' ∧ h ≤ v.y * w'
    · have h3 : 0 < v.y * w ∧ h ≤ v.y * w := by omega
      rw [if_pos h1, if_pos h3]; simp [hw]
    · rw [if_neg h1]
      by_cases h3 : 0 < v.y * w ∧ h ≤ v.y * w
      · rw [if_pos h3]; simp only; omega
      · rw [if_neg h3]
        exact fall_thick hD f hf l _ _ _ (fun u hu => hl u (by simp [hu])) (stp_nonneg _ _ _) (stp_mono h0 hw hK hK2 hD (Int.le_refl _))
theorem fall_w {h : Int} {K : V2 → Int} {D B : Int} (hD : 0 < D) : ∀ (l : List V2) (n w : Int), (∀ v ∈ l, 0 ≤ K v) → 0 ≤ w → w ≤ B → 0 ≤ (fallI h K D l n w).2 ∧ (fallI h K D l n w).2 ≤ B ∧ (fallI h K D l n w).1 ≤ n + l.length
  | [], n, w, _, h0, hw => by simp [fallI, hw, h0]
  | v :: l, n, w, hl, h0, hw => by
    unfold fallI
    split
    · simp only [List.length_cons]; omega
    · have h1 := stp_le h0 (hl v (by simp)) hD
      have := fall_w (h := h) (B := B) hD l (n + 1) (stp w (K v) D) (fun u hu => hl u (by simp [hu])) (stp_nonneg _ _ _) (by omega)
      simp only [List.length_cons]; omega
/-- The people of the first cells; of the cells from one to another one. -/
def psum (l : List Int) (k : Int) : Int := (l.take k.toNat).sum
def seg (l : List Int) (a b : Int) : Int := psum l (b + 1) - psum l a
theorem psum_succ {l : List Int} {k : Int} (h0 : 0 ≤ k) (h1 : k < l.length) : psum l (k + 1) = psum l k + l[k.toNat]'(by omega) := by
  unfold psum
  rw [show (k + 1).toNat = k.toNat + 1 by omega, List.take_succ_eq_append_getElem (by omega), List.sum_append]
  simp
theorem psum_mono {l : List Int} (hl : ∀ x ∈ l, 0 ≤ x) : ∀ {a b : Int}, a ≤ b → psum l a ≤ psum l b := by
  have key : ∀ (n m : Nat), (l.take n).sum ≤ (l.take (n + m)).sum := by
    intro n m
    induction m with
    | zero => simp
    | succ m ih =>
      refine Int.le_trans ih ?_
      rw [← Nat.add_assoc]
      by_cases h : n + m < l.length
      · rw [List.take_succ_eq_append_getElem h, List.sum_append]
        have := hl l[n + m] (List.getElem_mem h)
        simp; omega
      · rw [List.take_of_length_le (by omega), List.take_of_length_le (by omega)]; exact Int.le_refl _
  intro a b h
  unfold psum
  have := key a.toNat (b.toNat - a.toNat)
  rwa [show a.toNat + (b.toNat - a.toNat) = b.toNat by omega] at this
theorem psum_all {l : List Int} {k : Int} (h : l.length ≤ k) : psum l k = l.sum := by
  unfold psum; rw [List.take_of_length_le (by omega)]
theorem psum_zero {l : List Int} {k : Int} (h : k ≤ 0) : psum l k = 0 := by
  unfold psum; rw [show k.toNat = 0 by omega]; simp
theorem seg_mono {l : List Int} (hl : ∀ x ∈ l, 0 ≤ x) {a b a' b' : Int} (h1 : a' ≤ a) (h2 : b ≤ b') : seg l a b ≤ seg l a' b' := by
  have := psum_mono hl h1
  have := psum_mono hl (show b + 1 ≤ b' + 1 by omega)
  unfold seg; omega
theorem seg_cell {l : List Int} {a : Int} (h0 : 0 ≤ a) (h1 : a < l.length) : seg l a a = l[a.toNat]'(by omega) := by
  unfold seg; rw [psum_succ h0 h1]; omega
theorem seg_all {l : List Int} : seg l 0 (l.length - 1) = l.sum := by
  unfold seg; rw [show (l.length : Int) - 1 + 1 = l.length by omega, psum_all (Int.le_refl _), psum_zero (Int.le_refl _)]; omega
/-- What a sum over a part of a list is. -/
theorem seg_part {l : List Int} {a b : Int} (h0 : 0 ≤ a) (h1 : a ≤ b + 1) : ((l.drop a.toNat).take (b + 1 - a).toNat).sum = seg l a b := by
  unfold seg psum
  have : l.take (b + 1).toNat = l.take a.toNat ++ (l.drop a.toNat).take (b + 1 - a).toNat := by
    rw [show (b + 1).toNat = a.toNat + (b + 1 - a).toNat by omega, List.take_add]
  rw [this, List.sum_append]; omega
/-- To which cell a wave runs: one step at a time. -/
def runI (wt : List Bool) (to : Int) : Nat → Int → Int
  | 0, at' => at'
  | k + 1, at' => if wt.getD at'.toNat false = true ∧ 0 ≤ at' + to ∧ at' + to < wt.length then runI wt to k (at' + to) else at'
theorem run_left (wt : List Bool) : ∀ (k : Nat) (a : Int), 0 ≤ a → 0 ≤ runI wt (-1) k a ∧ a - k ≤ runI wt (-1) k a ∧ runI wt (-1) k a ≤ a
  | 0, a, h => by simp [runI]; omega
  | k + 1, a, h => by
    unfold runI
    split
    · have := run_left wt k (a + -1) (by omega); omega
    · omega
theorem run_right (wt : List Bool) : ∀ (k : Nat) (a : Int), a < wt.length → a ≤ runI wt 1 k a ∧ runI wt 1 k a ≤ a + k ∧ runI wt 1 k a < wt.length
  | 0, a, h => by simp [runI]; omega
  | k + 1, a, h => by
    unfold runI
    split
    · have := run_right wt k (a + 1) (by omega); omega
    · omega
theorem run_left_more (wt : List Bool) (m : Nat) : ∀ (k : Nat) (a : Int), 0 ≤ a → runI wt (-1) (k + m) a ≤ runI wt (-1) k a
  | 0, a, h => by have := run_left wt (0 + m) a h; simp only [runI]; omega
  | k + 1, a, h => by
    rw [show k + 1 + m = (k + m) + 1 by omega]
    unfold runI
    split
    · exact run_left_more wt m k _ (by omega)
    · omega
theorem run_right_more (wt : List Bool) (m : Nat) : ∀ (k : Nat) (a : Int), a < wt.length → runI wt 1 k a ≤ runI wt 1 (k + m) a
  | 0, a, h => by have := run_right wt (0 + m) a h; simp only [runI]; omega
  | k + 1, a, h => by
    rw [show k + 1 + m = (k + m) + 1 by omega]
    unfold runI
    split
    · exact run_right_more wt m k _ (by omega)
    · omega
end Go.Proofs.YtlmhbggigbmeaaaDoor

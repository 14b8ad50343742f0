/- SpanCertain: where two areas surely hit, each segment from the one to the other comes within the radius; where they are surely clear, none does; both never hold; lesser areas are hit and clear, too; of two places just one holds. No condition. -/
import Derived.Test.YtagfhekjmkdjkaaCertM
import Derived.Test.YtagfhekjmkdjkaaCertH
import Derived.Test.YtagfhekjmkdjkaaCertC
import Derived.Test.YtagfhekjmkdjkaaCertN
namespace Go.Proofs.Ytagfhekjmkdjkaa
open Go.ChangeShapes Go.WideShapes Go.ChangeAt Go.RowKit Go.Joins
theorem chkA_little {a b c d : Int} (h1 : -1000 ≤ a) (h2 : a ≤ b) (h3 : b ≤ 1000) (h4 : -1000 ≤ c) (h5 : c ≤ d) (h6 : d ≤ 1000) : chkA a b c d = 0 := by
  have e1 : chk a b = 0 := (chk_ok a b).2 ⟨by omega, by omega, h2⟩
  have e2 : chk c d = 0 := (chk_ok c d).2 ⟨by omega, by omega, h5⟩
  have f1 : farB a c = true := by unfold farB; simp; omega
  have f2 : farB b c = true := by unfold farB; simp; omega
  have f3 : farB b d = true := by unfold farB; simp; omega
  have f4 : farB a d = true := by unfold farB; simp; omega
  unfold chkA chkB
  rw [e1, e2, f1, f2, f3, f4]; rfl
theorem canB_little {a b c d e f g h r : Int} (h1 : -1000 ≤ a) (h2 : a ≤ b) (h3 : b ≤ 1000) (h4 : -1000 ≤ c) (h5 : c ≤ d) (h6 : d ≤ 1000) (h7 : -1000 ≤ e) (h8 : e ≤ f) (h9 : f ≤ 1000) (h10 : -1000 ≤ g) (h11 : g ≤ h) (h12 : h ≤ 1000) (h13 : 0 ≤ r) (h14 : r ≤ 1000) : canB a b c d e f g h r = true := by
  unfold canB
  rw [chkA_little h1 h2 h3 h4 h5 h6, chkA_little h7 h8 h9 h10 h11 h12]
  unfold radB; simp; omega
theorem within_little {px py qx qy r : Int} (h1 : -1000 ≤ px) (h2 : px ≤ 1000) (h3 : -1000 ≤ py) (h4 : py ≤ 1000) (h5 : -1000 ≤ qx) (h6 : qx ≤ 1000) (h7 : -1000 ≤ qy) (h8 : qy ≤ 1000) (h13 : 0 ≤ r) (h14 : r ≤ 1000) : (radB r && farB px py && farB qx qy && withinB px py qx qy r) = withinB px py qx qy r := by
  have f1 : farB px py = true := by unfold farB; simp; omega
  have f2 : farB qx qy = true := by unfold farB; simp; omega
  have f3 : radB r = true := by unfold radB; simp; omega
  rw [f1, f2, f3]; simp
theorem SpanCertain_any (p : Option Addr) (len cap : Nat) (z : Nat → Int) (r0 : Int) (w : World) (hw : ListIn w p len z) (hr : I64 r0) :
    Calls Try.prog 4 #[.slice p len cap, .int .i64 r0] w (Gives (.bool true) w) := by
  obtain ⟨a1, a2, a3⟩ := ar_bounds z len 0 60 40 (by decide) (by decide)
  obtain ⟨c1, c2, c3⟩ := ar_bounds z len 3 60 40 (by decide) (by decide)
  obtain ⟨e1, e2, e3⟩ := ar_bounds z len 6 60 40 (by decide) (by decide)
  obtain ⟨g1, g2, g3⟩ := ar_bounds z len 9 60 40 (by decide) (by decide)
  have r1 := Int.emod_nonneg r0 (b := 90) (by decide); have r2 := Int.emod_lt_of_pos r0 (b := 90) (by decide)
  have A1 := Go.Lib.hid (fun b' W => AreaOf_r 60 40 b' p len cap z 0 W (by decide) (by decide) (by decide) (by decide) (by decide))
  have A2 := Go.Lib.hid (fun b' W => AreaOf_r 60 40 b' p len cap z 6 W (by decide) (by decide) (by decide) (by decide) (by decide))
  have MO := Go.Lib.hid (fun W => Mod64_any r0 90 W hr (by decide) (by decide))
  have S1 := Go.Lib.hid (fun n (hn : n < 6) b' W => SomeIn_r (arLo z len 0 60 40) (arHi z len 0 60 40) (arLo z len 3 60 40) (arHi z len 3 60 40) b' p len cap z (12 + 4 * n) W (by omega) (by omega) a2 (by omega) (by omega) c2 (by omega))
  have S2 := Go.Lib.hid (fun n (hn : n < 6) b' W => SomeIn_r (arLo z len 6 60 40) (arHi z len 6 60 40) (arLo z len 9 60 40) (arHi z len 9 60 40) b' p len cap z (12 + 4 * n + 2) W (by omega) (by omega) e2 (by omega) (by omega) g2 (by omega))
  simp only [Nat.zero_add, Nat.reduceAdd] at A1 A2
  generalize arLo z len 0 60 40 = a at *
  generalize arHi z len 0 60 40 = b at *
  generalize arLo z len 3 60 40 = c at *
  generalize arHi z len 3 60 40 = d at *
  generalize arLo z len 6 60 40 = e at *
  generalize arHi z len 6 60 40 = f at *
  generalize arLo z len 9 60 40 = g at *
  generalize arHi z len 9 60 40 = h at *
  clear hr
  generalize r0 % 90 = r at *
  have X1 : ∀ n, a ≤ someX z len (12 + 4 * n) a b ∧ someX z len (12 + 4 * n) a b ≤ b := fun n => someX_bounds z len _ a b a2
  have X2 : ∀ n, c ≤ someX z len (12 + 4 * n + 1) c d ∧ someX z len (12 + 4 * n + 1) c d ≤ d := fun n => someX_bounds z len _ c d c2
  have X3 : ∀ n, e ≤ someX z len (12 + 4 * n + 2) e f ∧ someX z len (12 + 4 * n + 2) e f ≤ f := fun n => someX_bounds z len _ e f e2
  have X4 : ∀ n, g ≤ someX z len (12 + 4 * n + 2 + 1) g h ∧ someX z len (12 + 4 * n + 2 + 1) g h ≤ h := fun n => someX_bounds z len _ g h g2
  obtain ⟨px, hpx⟩ : ∃ px : Nat → Int, ∀ n, someX z len (12 + 4 * n) a b = px n := ⟨_, fun _ => rfl⟩
  obtain ⟨py, hpy⟩ : ∃ py : Nat → Int, ∀ n, someX z len (12 + 4 * n + 1) c d = py n := ⟨_, fun _ => rfl⟩
  obtain ⟨qx, hqx⟩ : ∃ qx : Nat → Int, ∀ n, someX z len (12 + 4 * n + 2) e f = qx n := ⟨_, fun _ => rfl⟩
  obtain ⟨qy, hqy⟩ : ∃ qy : Nat → Int, ∀ n, someX z len (12 + 4 * n + 2 + 1) g h = qy n := ⟨_, fun _ => rfl⟩
  simp only [hpx, hpy, hqx, hqy, show ∀ n, 12 + 4 * n + 2 + 2 = 12 + 4 * (n + 1) from fun n => by omega] at X1 X2 X3 X4 S1 S2
  clear hpx hpy hqx hqy
  have hK := canB_little (r := r) (by omega) a2 (by omega) (by omega) c2 (by omega) (by omega) e2 (by omega) (by omega) g2 (by omega) r1 (by omega)
  have K2 : ∀ n, canB (px n) (px n) (py n) (py n) (qx n) (qx n) (qy n) (qy n) r = true := fun n => by
    have := X1 n; have := X2 n; have := X3 n; have := X4 n
    exact canB_little (by omega) (by omega) (by omega) (by omega) (by omega) (by omega) (by omega) (by omega) (by omega) (by omega) (by omega) (by omega) r1 (by omega)
  have K1 : ∀ n, canB (px n) b c (py n) e (qx n) (qy n) h r = true := fun n => by
    have := X1 n; have := X2 n; have := X3 n; have := X4 n
    exact canB_little (by omega) (by omega) (by omega) (by omega) (by omega) (by omega) (by omega) (by omega) (by omega) (by omega) (by omega) (by omega) r1 (by omega)
  have HI := Go.Lib.hid (fun W => Hits_any a b c d e f g h r W)
  have CL := Go.Lib.hid (fun W => Clear_any a b c d e f g h r W)
  have CS := Go.Lib.hid (fun W => Clear_any e f g h a b c d r W)
  rw [clear_swap a2 c2 e2 g2] at CS
  have WI : ∀ n, n < 6 → ∀ W, Calls Try.prog 23 #[.agg #[.int .i64 (px n), .int .i64 (py n)], .agg #[.int .i64 (qx n), .int .i64 (qy n)], .int .i64 r] W (Gives (.bool (withinB (px n) (py n) (qx n) (qy n) r)) W) := fun n _ W => by
    have := X1 n; have := X2 n; have := X3 n; have := X4 n
    have hW := Within_any (px n) (py n) (qx n) (qy n) r W
    rw [within_little (by omega) (by omega) (by omega) (by omega) (by omega) (by omega) (by omega) (by omega) r1 (by omega)] at hW
    exact hW
  have CT : ∀ n, n < 6 → ∀ W, Calls Try.prog 27 #[.agg #[.int .i64 (px n), .int .i64 (px n), .int .i64 (py n), .int .i64 (py n)], .agg #[.int .i64 (qx n), .int .i64 (qx n), .int .i64 (qy n), .int .i64 (qy n)], .int .i64 r] W (Gives (.bool (!withinB (px n) (py n) (qx n) (qy n) r)) W) := fun n _ W => by
    have hW := Clear_any (px n) (px n) (py n) (py n) (qx n) (qx n) (qy n) (qy n) r W
    rw [clear_place (K2 n)] at hW
    exact hW
  have HT : ∀ n, n < 6 → ∀ W, Calls Try.prog 25 #[.agg #[.int .i64 (px n), .int .i64 (px n), .int .i64 (py n), .int .i64 (py n)], .agg #[.int .i64 (qx n), .int .i64 (qx n), .int .i64 (qy n), .int .i64 (qy n)], .int .i64 r] W (Gives (.bool (withinB (px n) (py n) (qx n) (qy n) r)) W) := fun n _ W => by
    have hW := Hits_any (px n) (px n) (py n) (py n) (qx n) (qx n) (qy n) (qy n) r W
    rw [hits_place (K2 n)] at hW
    exact hW
  cases hH : hitsB a b c d e f g h r
  · cases hC : clearI a b c d e f g h r
    · rw [hH] at HI; rw [hC] at CL CS
      exact SpanCertain_N p len cap z a b c d e f g h r r0 px py qx qy (fun n => withinB (px n) (py n) (qx n) (qy n) r) w hw A1 A2 MO HI CL CS S1 S2 (Go.Lib.hid WI) (Go.Lib.hid CT) (Go.Lib.hid HT)
    · have hin : ∀ n, withinB (px n) (py n) (qx n) (qy n) r = false := fun n => clear_out hC (X1 n) (X2 n) (X3 n) (X4 n)
      have HP : ∀ n, n < 6 → ∀ W, Calls Try.prog 27 #[.agg #[.int .i64 (px n), .int .i64 b, .int .i64 c, .int .i64 (py n)], .agg #[.int .i64 e, .int .i64 (qx n), .int .i64 (qy n), .int .i64 h], .int .i64 r] W (Gives (.bool true) W) := fun n _ W => by
        have := X1 n; have := X2 n; have := X3 n; have := X4 n
        have hW := Clear_any (px n) b c (py n) e (qx n) (qy n) h r W
        rw [clear_part hC (by omega) (by omega) (by omega) (by omega) (K1 n)] at hW
        exact hW
      simp only [hin] at WI CT HT
      rw [hH] at HI; rw [hC] at CL CS
      exact SpanCertain_C p len cap z a b c d e f g h r r0 px py qx qy (fun _ => false) w hw A1 A2 MO HI CL CS S1 S2 (Go.Lib.hid WI) (Go.Lib.hid CT) (Go.Lib.hid HT) (Go.Lib.hid HP)
  · have hC := hit_not_clear a2 c2 e2 g2 hH
    have hin : ∀ n, withinB (px n) (py n) (qx n) (qy n) r = true := fun n => hits_in hH (X1 n) (X2 n) (X3 n) (X4 n)
    have HP : ∀ n, n < 6 → ∀ W, Calls Try.prog 25 #[.agg #[.int .i64 (px n), .int .i64 b, .int .i64 c, .int .i64 (py n)], .agg #[.int .i64 e, .int .i64 (qx n), .int .i64 (qy n), .int .i64 h], .int .i64 r] W (Gives (.bool true) W) := fun n _ W => by
      have := X1 n; have := X2 n; have := X3 n; have := X4 n
      have hW := Hits_any (px n) b c (py n) e (qx n) (qy n) h r W
      rw [hits_part hH (by omega) (by omega) (by omega) (by omega) (K1 n)] at hW
      exact hW
    simp only [hin] at WI CT HT
    rw [hH] at HI; rw [hC] at CL CS
    exact SpanCertain_H p len cap z a b c d e f g h r r0 px py qx qy (fun _ => true) w hw A1 A2 MO HI CL CS S1 S2 (Go.Lib.hid WI) (Go.Lib.hid CT) (Go.Lib.hid HT) (Go.Lib.hid HP)
set_option maxRecDepth 100000 in
theorem SpanCertain_lifted (os : Os) (started : os.Started) (H : Type) (enc : TypeId × Value → H) :
    ReturnsInHanded {} Try.checked os 4 .any (Rows.spanCertainSpec.pre6 enc Try.prog Try.f4 Rows.spanCertainRow.domain false) (Rows.spanCertainSpec.post enc Try.prog Try.f4 false true false false) := by
  refine returnsInHanded_of_change (C := Try.checked) own started (by kernel_rfl) Try.func4
    (ChangeSpec.witness6 (enc := enc) (C := Try.checked) false ⟨#[], #[.slice none 0 0, .int .i64 0], []⟩ 8 (by kernel_rfl) (by kernel_rfl) (by kernel_rfl) (by kernel_rfl)) ?_
  intro W base args ds gs before hval0 hW _ _
  have hval : ∀ (j : Nat) t v, Try.f4.params[j]? = some t → args[j]? = some v → Value.okWide Try.prog W .any base t v := hval0
  have hW' := hW
  obtain ⟨p, q, hA0, hV, _, _, _⟩ := hW
  have hA : DataW.TrodAll enc Try.prog W 0 (fun _ => true) true Try.f4.params.toList args.toList ds p := hA0
  rw [Try.params4] at hA hval
  obtain ⟨v0, vs0, d0, ds0, p0, q0, hargs0, rfl, _, h0, r0⟩ := trodAll_cons hA
  obtain ⟨v1, vs1, d1, ds1, p1, q1, hargs1, rfl, _, h1, r1⟩ := trodAll_cons r0
  obtain ⟨hlast, rfl, _⟩ := trodAll_nil r1
  subst hlast
  subst hargs1
  obtain rfl : args = #[v0, v1] := by cases args; simp_all
  obtain ⟨rfl, rfl⟩ := trodVars_none hV
  obtain ⟨sp0, sl0, sc0, sz0, rfl, hi0⟩ := open_list (P := Try.prog) Try.underlying50 Try.underlying3 (by kernel_rfl) (hval 0 50 v0 rfl rfl) h0
  obtain ⟨x1, rfl, hi1⟩ := open_num (P := Try.prog) Try.underlying2 (hval 1 2 v1 rfl rfl)
  exact (SpanCertain_any sp0 sl0 sc0 sz0 x1 W hi0 hi1).mono fun e W' h => law_post laid_out (by rw [Try.params4]; intro t ht; simp only [List.mem_cons, List.not_mem_nil, or_false] at ht; rcases ht with rfl | rfl | rfl | rfl | rfl | rfl; all_goals exact ⟨by kernel_rfl, by decide +kernel⟩) rfl rfl Try.underlying4 hW' rfl h
/-- The statement. -/
theorem SpanCertain_holds : Rows.SpanCertainSaid :=
  OpenClaim.holds_of_wide 4 Try.f4 rfl rfl rfl rfl rfl rfl rfl ⟨rfl, rfl, rfl, rfl, rfl⟩ rfl rfl rfl rfl rfl (by kernel_rfl) Try.func4 (by kernel_rfl)
    (of_decide_eq_true (by kernel_rfl)) (by unfold Func.isWrapper; first | (rw [if_pos (by decide +kernel)]; kernel_rfl) | (rw [if_neg (by decide +kernel)]; exact ⟨rfl, rfl⟩))
    (fun os started H enc _ => SpanCertain_lifted os started H enc)
end Go.Proofs.Ytagfhekjmkdjkaa

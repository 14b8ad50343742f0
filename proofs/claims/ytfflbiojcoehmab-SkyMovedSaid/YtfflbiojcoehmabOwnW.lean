/- Worlds of the same contents, wherever their tracks lie; contract of OwnWorld: a copy of a world. Condition: the world in memory, not great. -/
import Derived.Test.YtfflbiojcoehmabAppE
import Derived.Test.YtfflbiojcoehmabSkyC
import Derived.Test.YtfflbiojcoehmabSkyOf
import Derived.Test.YtfflbiojcoehmabSkyE
namespace Go.Proofs.Ytfflbiojcoehmab
open Go.RowKit Go.Shelf
attribute [local go_sem] Option.isSome_some Ext.cell Ext.frozen Ext.lt Ext.le Ext.lt_add Ext.le_add Ext.ne Ext.ne' lt2 lt3 lt4 lt5 le2 le3 le4
def BodyR.bare (b : BodyR) : Int × Int × List V2 := (b.mu, b.rad, b.track)
theorem bare_eq {b c : BodyR} (h : b.bare = c.bare) : b.mu = c.mu ∧ b.rad = c.rad ∧ b.track = c.track := by
  unfold BodyR.bare at h
  simp only [Prod.mk.injEq] at h
  exact h
theorem bodyE_bare {b c : BodyR} (h : b.bare = c.bare) : bodyE b = bodyE c := by
  obtain ⟨h1, h2, h3⟩ := bare_eq h
  unfold bodyE
  rw [h1, h2, h3]
theorem bodiesE_bare : ∀ {l m : List BodyR}, l.map BodyR.bare = m.map BodyR.bare → bodiesE l = bodiesE m
  | [], [], _ => rfl
  | b :: l, c :: m, h => by
    simp only [List.map_cons, List.cons.injEq] at h
    rw [bodiesE, bodiesE, bodyE_bare h.1, bodiesE_bare h.2]
  | [], _ :: _, h => by simp at h
  | _ :: _, [], h => by simp at h
theorem bare_len {l m : List BodyR} (h : l.map BodyR.bare = m.map BodyR.bare) : l.length = m.length := by
  have := congrArg List.length h
  simpa using this
theorem worldE_bare {l m : List BodyR} (h : l.map BodyR.bare = m.map BodyR.bare) (hm : Int) : worldE l hm = worldE m hm := by
  unfold worldE
  rw [bodiesE_bare h, bare_len h]
theorem bodyAt_bare {l m : List BodyR} (h : l.map BodyR.bare = m.map BodyR.bare) (b : Int) : bodyAt l b = bodyAt m b := by
  have h1 : (l.map BodyR.bare)[b.toNat]? = (m.map BodyR.bare)[b.toNat]? := by rw [h]
  rw [List.getElem?_map, List.getElem?_map] at h1
  unfold bodyAt
  cases hl : l[b.toNat]? with
  | none =>
    rw [hl] at h1
    cases hm : m[b.toNat]? with
    | none => rfl
    | some y => rw [hm] at h1; simp at h1
  | some x =>
    rw [hl] at h1
    cases hm : m[b.toNat]? with
    | none => rw [hm] at h1; simp at h1
    | some y =>
      rw [hm] at h1
      simp only [Option.map_some, Option.some.injEq] at h1
      exact (bare_eq h1).2.2
theorem cells3_new' (w : World) (n : Nat) (hn : w.heap.size = n) (v0 v1 v2 : Value) (T : TypeId) : ∀ j u, [v0, v1, v2][j]? = some u → (w.alloc (.cells #[v0, v1, v2] T)).cell? ((⟨n, 0, none⟩ : Addr).add j) = some u := by
  subst hn
  exact cells3_new w v0 v1 v2 T
theorem made_none (w : World) (n : Nat) (hn : w.heap.size = n) (k : Nat) (T : TypeId) : (w.alloc (.cells #[] T)).ownsRow n T k (.slice (some ⟨n, 0, none⟩) 0 0) 0 [] := by
  subst hn
  exact World.ownsRow_made _ #[] 0 (Nat.le_refl _) (by decide) (by simp)
theorem bare_add {l m : List BodyR} {i : Nat} (hlt : i < l.length) (h : m.map BodyR.bare = (l.take i).map BodyR.bare) (g : Option Addr) (c : Nat) : (m ++ [(⟨l[i].mu, l[i].rad, g, c, l[i].track⟩ : BodyR)]).map BodyR.bare = (l.take (i + 1)).map BodyR.bare := by
  rw [List.take_succ_eq_append_getElem hlt, List.map_append, List.map_append, h]
  rfl
theorem Rows1.base {W : World} {base base' : Nat} {v : Value} {l : List BodyR} (h : Rows1 W base v l) (hb : base' ≤ base) : Rows1 W base' v l := ⟨owns_base h.b hb, fun c hc => owns_base (h.t c hc) hb⟩
/-- Tracks that lie in blocks of their own, each in another. -/
def Apart (l : List BodyR) : Prop := (∀ b ∈ l, ∃ g, b.tp = some ⟨g, 0, none⟩) ∧ l.Pairwise fun a b => a.tp ≠ b.tp
theorem Apart.snoc {l : List BodyR} {b : BodyR} {W : World} {base g : Nat} (h : Apart l) (ho : TrOwn W base l) (hb : b.tp = some ⟨g, 0, none⟩) (hg : W.heap.size ≤ g) : Apart (l ++ [b]) := by
  refine ⟨fun c hc => ?_, ?_⟩
  · rcases List.mem_append.1 hc with h1 | h1
    · exact h.1 c h1
    · rw [List.mem_singleton.1 h1]; exact ⟨g, hb⟩
  · rw [List.pairwise_append]
    refine ⟨h.2, List.pairwise_singleton _ _, fun c hc d hd => ?_⟩
    rw [List.mem_singleton.1 hd]
    obtain ⟨g', hg'⟩ := h.1 c hc
    have := ho c hc
    rw [hg'] at this
    have := (this.lt g' rfl).2
    rw [hb, hg']
    intro e
    injection e with e
    injection e with e
    omega
/-- A world of the call's own with the contents of another. -/
structure OwnWorldAt (W : World) (base : Nat) (l : List BodyR) (p : Option Addr) (c : Nat) (l' : List BodyR) : Prop where
  r : Rows1 W base (.slice p l'.length c) l'
  a : Apart l'
  e : l'.map BodyR.bare = l.map BodyR.bare
def OwnWPost (w : World) (l : List BodyR) (h : Int) : Ending → World → Prop := fun e w' => Below w.heap.size w w' ∧ ∃ p c l', e = .returned (wval p l'.length c h) ∧ OwnWorldAt w' w.heap.size l p c l'
set_option maxRecDepth 100000 in
set_option maxHeartbeats 8000000 in
theorem OwnWorld_any (p : Option Addr) (c : Nat) (l : List BodyR) (h : Int) (w : World) (hP : BodiesAt w p l) (hl : l.length ≤ 1000) (ht : ∀ b ∈ l, b.track.length ≤ 5000) :
    Calls Try.prog 27 #[wval p l.length c h] w (OwnWPost w l h) := by
  unfold wval
  obtain ⟨i9, hi9, hy0, hy1, hy2⟩ := info_parts vec_info
  obtain ⟨i0, hi0, hz0, hz1, hz2⟩ := info_parts body_info
  replace hP := Go.Lib.hid (fun (W : World) (y : Below w.heap.size w W) => hP.on y)
  replace ht := Go.Lib.hid ht
  go_enter Try.func27, Try.ntmps27
  go_wp2_with fail
  refine wp_named (fun W0 hW => ?_)
  have b0 : W0.cell? ⟨w.heap.size, 0, none⟩ = some (.slice p l.length c) := by rw [← hW]; simp [go_sem]
  have b1 : W0.cell? ⟨w.heap.size, 1, none⟩ = some (.int .i64 h) := by rw [← hW]; simp [go_sem]
  have f0 : W0.frozen? ⟨w.heap.size, 0, none⟩ = false := by rw [← hW]; simp [go_sem]
  have g0 : W0.cell? ⟨w.heap.size + 1, 0, none⟩ = some (.slice none 0 0) := by rw [← hW]; simp [go_sem]
  have g1 : W0.cell? ⟨w.heap.size + 1, 1, none⟩ = some (.int .i64 0) := by rw [← hW]; simp [go_sem]
  have k0 : W0.frozen? ⟨w.heap.size + 1, 0, none⟩ = false := by rw [← hW]; simp [go_sem]
  have k1 : W0.frozen? ⟨w.heap.size + 1, 1, none⟩ = false := by rw [← hW]; simp [go_sem]
  have hbw : Below w.heap.size w W0 := by rw [← hW]; repeat' (first | (with_reducible exact Below.refl _ _) | (with_reducible assumption) | (with_reducible refine Ext.below _ ?_ ?_) | (with_reducible refine Below.on ?_ (by with_reducible assumption) ?_) | (with_reducible refine Below.alloc ?_ ?_ _) | (with_reducible refine Below.drew ?_) | (with_reducible refine Below.setCell ?_ ?_ _) | (with_reducible exact Nat.le_refl _) | omega | (simp; done) | (simp [go_sem]; done) | (simp at *; omega))
  have hs0 : w.heap.size + 1 < W0.heap.size := by rw [← hW]; simp
  have hs00 : w.heap.size < W0.heap.size := by omega
  clear hW
  have hP0 := Go.Lib.hid (hP.out W0 hbw)
  clear hP
  go_loopw [3, 4] (fun v u W => ∃ (i : Nat) (x : Ext W0) (m : List BodyR), u = .int .i64 i ∧ W = x.now ∧ Hid (Rows1 x.now W0.heap.size v m ∧ Apart m) ∧ Hid (i ≤ l.length ∧ m.length = i ∧ m.map BodyR.bare = (l.take i).map BodyR.bare)) (fun _ u _ => l.length - (intOf u).toNat)
  case atStart => exact ⟨0, ⟨W0, Below.refl _ _⟩, [], rfl, rfl, Go.Lib.hid ⟨⟨World.ownsRow_nil _ _ _ _, fun _ h => by simp at h⟩, fun _ h => by simp at h, List.Pairwise.nil⟩, Go.Lib.hid ⟨Nat.zero_le _, rfl, by simp⟩⟩
  case round =>
    obtain ⟨i, x, m, rfl, rfl, hown, hi⟩ := hrel
    have xs := x.size
    have hbx := x.below hbw (by omega)
    have xr : Below x.now.heap.size x.now x.now := Below.refl _ _
    have : w.heap.size < (x.now).heap.size := (by omega); have : w.heap.size < (x.now).heap.size + 1 := (by omega); have : w.heap.size < (x.now).heap.size + 1 + 1 := (by omega); have : w.heap.size ≠ (x.now).heap.size := (by omega); have : w.heap.size ≠ (x.now).heap.size + 1 := (by omega)
    have : w.heap.size + 1 < (x.now).heap.size := (by omega); have : w.heap.size + 1 < (x.now).heap.size + 1 := (by omega); have : w.heap.size + 1 < (x.now).heap.size + 1 + 1 := (by omega); have : w.heap.size + 1 ≠ (x.now).heap.size := (by omega); have : w.heap.size + 1 ≠ (x.now).heap.size + 1 := (by omega)
    obtain ⟨bp, bc, hbpc⟩ := owns_form hown.out.1.b
    by_cases hlt : i < l.length
    · have hlt2 : (i : Int) < l.length := by omega
      obtain ⟨hv, B, o, rfl, hB, r1, r2, r3⟩ := hP0.out i hlt
      have : B < (x.now).heap.size := (by omega); have : B < (x.now).heap.size + 1 := (by omega); have : B < (x.now).heap.size + 1 + 1 := (by omega); have : B ≠ (x.now).heap.size := (by omega); have : B ≠ (x.now).heap.size + 1 := (by omega)
      have htl := ht.out l[i] (List.getElem_mem hlt)
      have hil := hi.out.2.1
      have hkey := hi.out.2.2
      have hv := Go.Lib.hid (hv.ext x)
      have hfin := Go.Lib.hid (fun (g : Option Addr) (c' : Nat) => bare_add hlt hkey g c')
      subst hbpc
      replace hil := Go.Lib.hid hil
      by_cases h0 : l[i].track.length = 0
      · have hx0 : vrows l[i].track = [] := by rw [List.length_eq_zero_iff.1 h0]; rfl
        rw [h0] at r3
        clear hv hi hkey
        generalize l[i].mu = mu at *
        generalize l[i].rad = rad at *
        generalize l[i].tp = tp at *
        generalize l[i].tc = tc at *
        generalize l[i].track = tr at *
        have hnt' := Go.Lib.hid h0
        have hxt' := Go.Lib.hid hx0
        clear h0 hx0
        go_wp2_with (first | ((with_reducible refine wp_region_ext (by kernel_rfl) (by kernel_rfl) ?_); (repeat (first | go_big_quiet_step ((first | fail)) | quiet_step ((first | fail)))); refine wpQuiet_nil ?_; rintro _ ⟨yr, rfl⟩; have syr := Ext.size yr; (repeat (first | rw [World.size_alloc] at syr | rw [World.size_setCell] at syr | rw [World.size_drew] at syr))) | (at_builtin; refine wpListW_named (fun W2 hW2 => ?_); have s2 : W2.heap.size = x.now.heap.size + 1 + 1 := (by rw [← hW2]; simp); have y2 : Below x.now.heap.size x.now W2 := (by rw [← hW2]; repeat' (first | (with_reducible exact Below.refl _ _) | (with_reducible assumption) | (with_reducible refine Ext.below _ ?_ ?_) | (with_reducible refine Below.on ?_ (by with_reducible assumption) ?_) | (with_reducible refine Below.alloc ?_ ?_ _) | (with_reducible refine Below.drew ?_) | (with_reducible refine Below.setCell ?_ ?_ _) | (with_reducible exact Nat.le_refl _) | omega | (simp; done) | (simp [go_sem]; done) | (simp at *; omega))); have q0 : W2.cell? ⟨x.now.heap.size, 0, none⟩ = some (.int .i64 mu) := (by rw [← hW2]; simp [go_sem]); have q1 : W2.cell? ⟨x.now.heap.size, 1, none⟩ = some (.int .i64 rad) := (by rw [← hW2]; simp [go_sem]); have q2 : W2.frozen? ⟨x.now.heap.size, 2, none⟩ = false := (by rw [← hW2]; simp [go_sem]); have q3 : W2.cell? ⟨x.now.heap.size, 2, none⟩ = some (.slice tp 0 tc) := (by rw [← hW2]; simp [go_sem]); have hm0 : W2.ownsRow (x.now.heap.size + 1) 33 2 (.slice (some ⟨x.now.heap.size + 1, 0, none⟩) 0 0) 0 [] := (by rw [← hW2]; exact made_none _ _ (by simp) _ _); clear hW2; refine wpList_append_none rfl _ _ 50 rfl 33 i9 Try.underlying50 hi9 (x.now.heap.size + 1) 0 0 _ _ rfl rfl (Nat.le_refl _) ?_; have s2' : x.now.heap.size + 1 < W2.heap.size := (by omega); replace s2 := Go.Lib.hid s2; have howna := hm0; have ya := y2; have hga : x.now.heap.size + 1 ≤ x.now.heap.size + 1 := Nat.le_refl _; clear hm0 y2) | (at_builtin; go_loud (refine wpListW_named (fun W3 hW3 => ?_); have y3 : Below x.now.heap.size x.now W3 := (by rw [← hW3]; repeat' (first | (with_reducible exact Below.refl _ _) | (with_reducible assumption) | (with_reducible refine Ext.below _ ?_ ?_) | (with_reducible refine Below.on ?_ (by with_reducible assumption) ?_) | (with_reducible refine Below.alloc ?_ ?_ _) | (with_reducible refine Below.drew ?_) | (with_reducible refine Below.setCell ?_ ?_ _) | (with_reducible exact Nat.le_refl _) | omega | (simp; done) | (simp [go_sem]; done) | (simp at *; omega))); have s3 : W3.heap.size = W2.heap.size + 1 := (by rw [← hW3]; simp); have howT : W3.ownsRow (x.now.heap.size + 1) 33 2 (.slice (some ⟨x.now.heap.size + 1, 0, none⟩) 0 0) 0 [] := (by rw [← hW3]; exact (owns_put howna (Nat.lt_succ_self _) 2 _).alloc _); have hR3b := owns_below hown.out.1.b y3; have hR3t : TrOwn W3 W0.heap.size m := hown.out.1.t.map (fun _ _ _ g => owns_below g y3); have hc3 : ∀ j u, [Value.int .i64 mu, .int .i64 rad, .slice (some ⟨x.now.heap.size + 1, 0, none⟩) 0 0][j]? = some u → W3.cell? ((⟨W2.heap.size, 0, none⟩ : Addr).add j) = some u := (by rw [← hW3]; exact cells3_new' _ _ (by simp) _ _ _ _); have hB3 : Below W0.heap.size W0 W3 := Below.on x.grew y3 (by omega); clear hW3; refine wpList_append_own _ rfl _ _ 22 rfl W0.heap.size 52 i0 _ 3 40 Try.underlying22 hi0 hz0 hz1 hz2 rfl (by decide) _ m.length (brows m) rfl hR3b ⟨W2.heap.size, 0, none⟩ 1 1 _ rfl rfl hc3 (by intro u hu; simp only [List.mem_cons, List.not_mem_nil, or_false] at hu; rcases hu with rfl | rfl | rfl <;> rfl) (by have := hil.out; unfold maxLen; omega) (by have := hil.out; omega) (by omega) ?_; intro v' W4 hown' hgrow _; have hB4 : Below W0.heap.size W0 W4 := below_grown hB3 hR3b (Nat.le_refl _) (by omega) hgrow; have hT4 : TrOwn W4 W0.heap.size m := hR3t.grown hR3b (by decide) hgrow; have hTn := World.ownsRow.kept howT hgrow (owns_apart2 howT hR3b (by decide)); clear hR3t howT hc3 y3 hgrow hR3b)))
        exact ⟨⟨i + 1, ⟨W4, hB4⟩, m ++ [⟨mu, rad, some ⟨x.now.heap.size + 1, 0, none⟩, 0, tr⟩], by simp, rfl, Go.Lib.hid ⟨⟨by rw [brows_add, List.length_append, hnt'.out]; exact hown', hT4.snoc (by rw [hnt'.out, hxt'.out]; exact owns_base hTn (by omega))⟩, hown.out.2.snoc hown.out.1.t rfl (by omega)⟩, Go.Lib.hid ⟨hlt, by simp [hil.out], hfin.out _ _⟩⟩, by simp [intOf]; omega⟩
      · obtain ⟨Bt, ot, htp, hBt, -⟩ := hv.out 0 (by omega)
        rw [htp] at r3
        have ka := Go.Lib.hid (fun (W : World) (y : Below x.now.heap.size x.now W) => vecs_cells (htp ▸ hv.out.on y))
        have ra := vrows_length l[i].track
        have oa := Go.Lib.hid (vrows_one l[i].track)
        clear hv hi hkey htp
        generalize l[i].mu = mu at *
        generalize l[i].rad = rad at *
        generalize l[i].tc = tc at *
        generalize l[i].track = tr at *
        obtain ⟨nt, hnt'⟩ : ∃ n, tr.length = n := ⟨_, rfl⟩
        obtain ⟨xt, hxt'⟩ : ∃ x, vrows tr = x := ⟨_, rfl⟩
        rw [hxt'] at ra ka oa
        rw [hnt'] at ra htl r3 h0
        have hnt0 := h0
        replace hnt' := Go.Lib.hid hnt'
        replace hxt' := Go.Lib.hid hxt'
        go_wp2_with (first | ((with_reducible refine wp_region_ext (by kernel_rfl) (by kernel_rfl) ?_); (repeat (first | go_big_quiet_step ((first | fail)) | quiet_step ((first | fail)))); refine wpQuiet_nil ?_; rintro _ ⟨yr, rfl⟩; have syr := Ext.size yr; (repeat (first | rw [World.size_alloc] at syr | rw [World.size_setCell] at syr | rw [World.size_drew] at syr))) | (at_builtin; refine wpListW_named (fun W2 hW2 => ?_); have s2 : W2.heap.size = x.now.heap.size + 1 + 1 := (by rw [← hW2]; simp); have y2 : Below x.now.heap.size x.now W2 := (by rw [← hW2]; repeat' (first | (with_reducible exact Below.refl _ _) | (with_reducible assumption) | (with_reducible refine Ext.below _ ?_ ?_) | (with_reducible refine Below.on ?_ (by with_reducible assumption) ?_) | (with_reducible refine Below.alloc ?_ ?_ _) | (with_reducible refine Below.drew ?_) | (with_reducible refine Below.setCell ?_ ?_ _) | (with_reducible exact Nat.le_refl _) | omega | (simp; done) | (simp [go_sem]; done) | (simp at *; omega))); have q0 : W2.cell? ⟨x.now.heap.size, 0, none⟩ = some (.int .i64 mu) := (by rw [← hW2]; simp [go_sem]); have q1 : W2.cell? ⟨x.now.heap.size, 1, none⟩ = some (.int .i64 rad) := (by rw [← hW2]; simp [go_sem]); have q2 : W2.frozen? ⟨x.now.heap.size, 2, none⟩ = false := (by rw [← hW2]; simp [go_sem]); have q3 : W2.cell? ⟨x.now.heap.size, 2, none⟩ = some (.slice (some ⟨Bt, ot, none⟩) nt tc) := (by rw [← hW2]; simp [go_sem]); have hm0 : W2.ownsRow (x.now.heap.size + 1) 33 2 (.slice (some ⟨x.now.heap.size + 1, 0, none⟩) 0 0) 0 [] := (by rw [← hW2]; exact made_none _ _ (by simp) _ _); clear hW2; refine wpList_append_own _ rfl _ _ 50 rfl (x.now.heap.size + 1) 33 i9 _ 2 16 Try.underlying50 hi9 hy0 hy1 hy2 rfl (by decide) _ 0 [] rfl hm0 ⟨Bt, ot, none⟩ nt tc xt rfl ra (ka.out _ y2) oa.out (by unfold maxLen; omega) (by omega) (by omega) ?_; intro va Wa howna hga2 _; have hbl := fun B (hB : B ≤ x.now.heap.size) => hga2.block B (by omega) (fun e => (by have := (hm0.lt B e.symm).1; omega)); replace q0 := (World.cell?_of_block (a := ⟨x.now.heap.size, 0, none⟩) (hbl _ (Nat.le_refl _))).trans q0; replace q1 := (World.cell?_of_block (a := ⟨x.now.heap.size, 1, none⟩) (hbl _ (Nat.le_refl _))).trans q1; replace q2 := (World.frozen?_of_block (a := ⟨x.now.heap.size, 2, none⟩) (hbl _ (Nat.le_refl _))).trans q2; replace q3 := (World.cell?_of_block (a := ⟨x.now.heap.size, 2, none⟩) (hbl _ (Nat.le_refl _))).trans q3; have ya : Below x.now.heap.size x.now Wa := below_grown y2 hm0 (by omega) (by omega) hga2; have s2' := hga2.size; rw [Nat.zero_add, List.nil_append] at howna; rcases owns_slice howna with ⟨-, hz⟩ | ⟨ga, ca', rfl, hga, -, -⟩; (exact absurd hz hnt0); clear hbl hga2 hm0 y2) | (at_builtin; go_loud (refine wpListW_named (fun W3 hW3 => ?_); have y3 : Below x.now.heap.size x.now W3 := (by rw [← hW3]; repeat' (first | (with_reducible exact Below.refl _ _) | (with_reducible assumption) | (with_reducible refine Ext.below _ ?_ ?_) | (with_reducible refine Below.on ?_ (by with_reducible assumption) ?_) | (with_reducible refine Below.alloc ?_ ?_ _) | (with_reducible refine Below.drew ?_) | (with_reducible refine Below.setCell ?_ ?_ _) | (with_reducible exact Nat.le_refl _) | omega | (simp; done) | (simp [go_sem]; done) | (simp at *; omega))); have s3 : W3.heap.size = Wa.heap.size + 1 := (by rw [← hW3]; simp); have howT : W3.ownsRow (x.now.heap.size + 1) 33 2 (.slice (some ⟨ga, 0, none⟩) nt ca') nt xt := (by rw [← hW3]; exact (owns_put howna (Nat.lt_succ_self _) 2 _).alloc _); have hR3b := owns_below hown.out.1.b y3; have hR3t : TrOwn W3 W0.heap.size m := hown.out.1.t.map (fun _ _ _ g => owns_below g y3); have hc3 : ∀ j u, [Value.int .i64 mu, .int .i64 rad, .slice (some ⟨ga, 0, none⟩) nt ca'][j]? = some u → W3.cell? ((⟨Wa.heap.size, 0, none⟩ : Addr).add j) = some u := (by rw [← hW3]; exact cells3_new' _ _ (by simp) _ _ _ _); have hB3 : Below W0.heap.size W0 W3 := Below.on x.grew y3 (by omega); clear hW3; refine wpList_append_own _ rfl _ _ 22 rfl W0.heap.size 52 i0 _ 3 40 Try.underlying22 hi0 hz0 hz1 hz2 rfl (by decide) _ m.length (brows m) rfl hR3b ⟨Wa.heap.size, 0, none⟩ 1 1 _ rfl rfl hc3 (by intro u hu; simp only [List.mem_cons, List.not_mem_nil, or_false] at hu; rcases hu with rfl | rfl | rfl <;> rfl) (by have := hil.out; unfold maxLen; omega) (by have := hil.out; omega) (by omega) ?_; intro v' W4 hown' hgrow _; have hB4 : Below W0.heap.size W0 W4 := below_grown hB3 hR3b (Nat.le_refl _) (by omega) hgrow; have hT4 : TrOwn W4 W0.heap.size m := hR3t.grown hR3b (by decide) hgrow; have hTn := World.ownsRow.kept howT hgrow (owns_apart2 howT hR3b (by decide)); clear hR3t howT hc3 y3 hgrow hR3b)))
        exact ⟨⟨i + 1, ⟨W4, hB4⟩, m ++ [⟨mu, rad, some ⟨ga, 0, none⟩, ca', tr⟩], by simp, rfl, Go.Lib.hid ⟨⟨by rw [brows_add, List.length_append, hnt'.out]; exact hown', hT4.snoc (by rw [hnt'.out, hxt'.out]; exact owns_base hTn (by omega))⟩, hown.out.2.snoc hown.out.1.t rfl (by omega)⟩, Go.Lib.hid ⟨hlt, by simp [hil.out], hfin.out _ _⟩⟩, by simp [intOf]; omega⟩
    · have hge : ¬ (i : Int) < l.length := by omega
      have hil := hi.out.2.1
      have hkey := hi.out.2.2
      rw [List.take_of_length_le (by omega)] at hkey
      subst hbpc
      replace hkey := Go.Lib.hid hkey
      replace hil := Go.Lib.hid hil
      go_wp2_with (first | ((first | with_reducible refine wp_region_ext2 (by kernel_rfl) (by kernel_rfl) ?_ | with_reducible refine wp_region_ext (by kernel_rfl) (by kernel_rfl) ?_); (repeat (first | go_big_quiet_step ((first | fail)) | quiet_step ((first | fail)))); refine wpQuiet_nil ?_; rintro _ ⟨yr, rfl⟩; have syr := Ext.size yr; (repeat (first | rw [World.size_alloc] at syr | rw [World.size_setCell] at syr | rw [World.size_drew] at syr))))
      refine bodyPost_ret (v := .agg #[.slice bp m.length bc, .int .i64 h]) (by simp (maxDischargeDepth := 9) [results, Try.results27, go_sem, *]) rfl ?_
      refine ⟨?_, bp, bc, m, rfl, ?_, hown.out.2, hkey.out⟩
      · repeat' (first | (with_reducible exact Below.refl _ _) | (with_reducible assumption) | (with_reducible refine Ext.below _ ?_ ?_) | (with_reducible refine Below.on ?_ (by with_reducible assumption) ?_) | (with_reducible refine Below.alloc ?_ ?_ _) | (with_reducible refine Below.drew ?_) | (with_reducible refine Below.setCell ?_ ?_ _) | (with_reducible exact Nat.le_refl _) | omega | (simp; done) | (simp [go_sem]; done) | (simp at *; omega))
      · exact ((((hown.out.1.put (by omega) _ _).put (by omega) _ _).put (by omega) _ _)).base (by omega)
end Go.Proofs.Ytfflbiojcoehmab

/- Contract of misses: with which looks a guess does not agree. Condition: looks in memory, a valid guess. -/
import Derived.Test.YtehaonlndfjpfaaSkyW
namespace Go.Proofs.Ytehaonlndfjpfaa
open Go.RowKit Go.Shelf
attribute [local go_sem] Option.isSome_some Ext.cell Ext.frozen Ext.lt Ext.le Ext.lt_add Ext.le_add Ext.ne Ext.ne' lt2 lt3 lt4 lt5 le2 le3 le4
def LooksAt (W : World) (p : Option Addr) (l : List LookR) : Prop := ∀ j (h : j < l.length), ∃ B o, p = some ⟨B, o, none⟩ ∧ B < W.heap.size ∧ W.cell? ⟨B, o + j * 4, none⟩ = some (.int .i64 l[j].tick) ∧ W.cell? ⟨B, o + j * 4 + 1, none⟩ = some (.int .i64 l[j].frm.x) ∧ W.cell? ⟨B, o + j * 4 + 2, none⟩ = some (.int .i64 l[j].frm.y) ∧ W.cell? ⟨B, o + j * 4 + 3, none⟩ = some l[j].says.val
theorem LooksAt.ext {W : World} {p : Option Addr} {l : List LookR} (h : LooksAt W p l) (x : Ext W) : LooksAt x.now p l := fun j hj => by
  obtain ⟨B, o, rfl, hB, h1, h2, h3, h4⟩ := h j hj
  exact ⟨B, o, rfl, x.lt hB, (x.cell hB).trans h1, (x.cell hB).trans h2, (x.cell hB).trans h3, (x.cell hB).trans h4⟩
theorem LooksAt.on {W W' : World} {p : Option Addr} {l : List LookR} (h : LooksAt W p l) (b : Below W.heap.size W W') : LooksAt W' p l := h.ext ⟨W', b⟩
theorem rowsOf_get (l : List LookR) : ∀ j (h : j < l.length) i u, (LookR.cells l[j])[i]? = some u → (rowsOf l)[j * 4 + i]? = some u := by
  induction l with
  | nil => intro j h; simp at h
  | cons k l ih =>
    intro j h i u hu
    have hi : i < 4 := by simpa [LookR.cells] using (List.getElem?_eq_some_iff.1 hu).1
    have hr : rowsOf (k :: l) = LookR.cells k ++ rowsOf l := by unfold rowsOf; rw [List.flatMap_cons]
    rw [hr]
    cases j with
    | zero => rw [Nat.zero_mul, Nat.zero_add, List.getElem?_append_left (by simp [LookR.cells]; omega)]; exact hu
    | succ j =>
      rw [List.getElem?_append_right (by simp [LookR.cells]; omega)]
      have := ih j (by simpa using h) i u (by simpa using hu)
      rw [← this]
      congr 1
      simp [LookR.cells]; omega
theorem owns_looks {w : World} {base : Nat} {v : Value} {l : List LookR} (h : w.ownsRow base 104 4 v l.length (rowsOf l)) : ∃ p c, v = .slice p l.length c ∧ LooksAt w p l := by
  rcases owns_slice h with ⟨rfl, h0⟩ | ⟨g, cap, rfl, -, hg, hc⟩
  · exact ⟨none, 0, by rw [h0], fun j hj => by omega⟩
  · refine ⟨_, _, rfl, fun j hj => ⟨g, 0, rfl, hg, ?_, ?_, ?_, ?_⟩⟩
    · rw [Nat.zero_add]; exact hc _ _ (rowsOf_get l j hj 0 _ rfl)
    · rw [Nat.zero_add]; exact hc _ _ (rowsOf_get l j hj 1 _ rfl)
    · rw [Nat.zero_add]; exact hc _ _ (rowsOf_get l j hj 2 _ rfl)
    · rw [Nat.zero_add]; exact hc _ _ (rowsOf_get l j hj 3 _ rfl)
/-- A look of a valid sight. -/
def LookR.Fit (k : LookR) : Prop := k.Ok ∧ tickB k.tick = true
theorem lookR_fit {s : SkyR} {x : SightR} {k : LookR} (hE : skyE s = 0) (h : lookR s x = .ok k) : k.Fit := by
  refine ⟨lookR_ok hE h, ?_⟩
  unfold lookR at h
  split at h
  · cases h
  split at h
  · cases h
  rename_i ht
  split at h
  · cases h
  cases hg : wordR s.cats x with
  | error e => rw [hg] at h; cases h
  | ok g => rw [hg] at h; injection h with h; rw [← h]; simpa using ht
def missB (g : StateR) (t : Int) (k : LookR) : Bool := !(k.agrees (strV g (k.tick - t)))
def missA (g : StateR) (t : Int) : List Int → Nat → List LookR → List Int
  | acc, _, [] => acc
  | acc, i, k :: l => missA g t (if missB g t k then acc ++ [(i : Int)] else acc) (i + 1) l
def missL (g : StateR) (t : Int) (l : List LookR) : List Int := missA g t [] 0 l
def intsOf (l : List Int) : List Value := l.map (Value.int .i64)
theorem intsOf_add (l : List Int) (i : Int) : intsOf (l ++ [i]) = intsOf l ++ [.int .i64 i] := by unfold intsOf; simp
/-- A list of numbers that is handed back. -/
def IntsPost (w : World) (l : List Int) : Ending → World → Prop := fun e w' => Below w.heap.size w w' ∧ ∃ v, e = .returned v ∧ w'.ownsRow w.heap.size 3 1 v l.length (intsOf l)
theorem cells1_new (w : World) (v0 : Value) (T : TypeId) : ∀ j u, [v0][j]? = some u → (w.alloc (.cells #[v0] T)).cell? ((⟨w.heap.size, 0, none⟩ : Addr).add j) = some u := by
  intro j u hj
  have hl : j < 1 := by simpa using (List.getElem?_eq_some_iff.1 hj).1
  obtain rfl : j = 0 := by omega
  have hadd : (⟨w.heap.size, 0, none⟩ : Addr).add 0 = ⟨w.heap.size, 0, none⟩ := by unfold Addr.add; split <;> simp_all
  rw [hadd]
  simp at hj; subst hj; simp [go_sem]
theorem int_info : (Try.prog.info? 3).map (fun i => (i.zero, i.size, i.bytes)) = some (some (.int .i64 0), 1, 8) := by kernel_rfl
set_option maxRecDepth 100000 in
set_option maxHeartbeats 16000000 in
theorem misses_any (g : StateR) (t : Int) (p : Option Addr) (c : Nat) (l : List LookR) (w : World) (hg : guessB g = true) (ht : tickB t = true) (hn : l.length ≤ 4096) (hP : LooksAt w p l) (hF : ∀ j (h : j < l.length), l[j].Fit) :
    Calls Try.prog 36 #[.slice p l.length c, .agg #[.int .i64 g.x, .int .i64 g.y, .int .i64 g.u, .int .i64 g.v], .int .i64 t] w (IntsPost w (missL g t l)) := by
  obtain ⟨V, hV⟩ : ∃ V, missL g t l = V := ⟨_, rfl⟩
  rw [hV]
  unfold missL at hV
  have hV := Go.Lib.hid hV
  have hP := Go.Lib.hid hP
  have hF := Go.Lib.hid hF
  obtain ⟨t0, t1⟩ := tickB_out.1 ht
  obtain ⟨i0, hi0, hz0, hz1, hz2⟩ := info_parts int_info
  obtain ⟨gx, gy, gu, gv⟩ := g
  have cs := fun (n : Int) (W : World) hn => straight_any ⟨gx, gy, gu, gv⟩ n W hg hn
  simp only at cs
  simp only
  have cs := Go.Lib.hid cs
  clear ht hg
  go_enter Try.func36, Try.ntmps36
  go_wp2_with (first | ((first | with_reducible refine wp_region_ext2 (by kernel_rfl) (by kernel_rfl) ?_ | with_reducible refine wp_region_ext (by kernel_rfl) (by kernel_rfl) ?_); (repeat (first | go_big_quiet_step ((first | fail)) | quiet_step ((first | fail)))); refine wpQuiet_nil ?_; rintro _ ⟨yr, rfl⟩; have syr := Ext.size yr; (repeat (first | rw [World.size_alloc] at syr | rw [World.size_setCell] at syr | rw [World.size_drew] at syr))))
  refine wp_named (fun W0 hW => ?_)
  have hBw : Below w.heap.size w W0 := by rw [← hW]; repeat' (first | (with_reducible exact Below.refl _ _) | (with_reducible assumption) | (with_reducible refine Ext.below _ ?_ ?_) | (with_reducible refine Below.on ?_ (by with_reducible assumption) ?_) | (with_reducible refine Below.alloc ?_ ?_ _) | (with_reducible refine Below.drew ?_) | (with_reducible refine Below.setCell ?_ ?_ _) | (with_reducible exact Nat.le_refl _) | omega | (simp; done) | (simp [go_sem]; done) | (simp at *; omega))
  have hs0 : w.heap.size < W0.heap.size := by rw [← hW]; simp
  have c0 : W0.cell? ⟨w.heap.size, 0, none⟩ = some (.int .i64 gx) := by rw [← hW]; simp [go_sem]
  have c1 : W0.cell? ⟨w.heap.size, 1, none⟩ = some (.int .i64 gy) := by rw [← hW]; simp [go_sem]
  have c2 : W0.cell? ⟨w.heap.size, 2, none⟩ = some (.int .i64 gu) := by rw [← hW]; simp [go_sem]
  have c3 : W0.cell? ⟨w.heap.size, 3, none⟩ = some (.int .i64 gv) := by rw [← hW]; simp [go_sem]
  have hP := Go.Lib.hid (hP.out.on hBw)
  clear hW
  go_loopw [7, 12] (fun v s W => ∃ (i : Nat) (x : Ext W0) (acc : List Int), s = .int .i64 i ∧ W = x.now ∧ x.now.ownsRow W0.heap.size 3 1 v acc.length (intsOf acc) ∧ Hid (i ≤ l.length ∧ acc.length ≤ i ∧ missA ⟨gx, gy, gu, gv⟩ t acc i (l.drop i) = V)) (fun _ s _ => l.length - (intOf s).toNat)
  case atStart => exact ⟨0, ⟨W0, Below.refl _ _⟩, [], rfl, rfl, World.ownsRow_nil _ _ _ _, Go.Lib.hid ⟨Nat.zero_le _, Nat.le_refl _, by simpa using hV.out⟩⟩
  case round =>
    obtain ⟨i, x, acc, rfl, rfl, hown, hi⟩ := hrel
    have xs := x.size
    have hbx := x.below hBw (by omega)
    have hsw : w.heap.size < x.now.heap.size := by omega
    by_cases hlt : i < l.length
    · have hlt2 : (i : Int) < l.length := by omega
      obtain ⟨B, o, rfl, hB, q1, q2, q3, q4⟩ := hP.out i hlt
      have hE := hi.out.2.2
      have hac := hi.out.2.1
      rw [drop_at hlt, missA] at hE
      have : B < (x.now).heap.size := (by omega); have : B < (x.now).heap.size + 1 := (by omega); have : B < (x.now).heap.size + 1 + 1 := (by omega); have : B ≠ (x.now).heap.size := (by omega); have : B ≠ (x.now).heap.size + 1 := (by omega)
      have : w.heap.size < (x.now).heap.size := (by omega); have : w.heap.size < (x.now).heap.size + 1 := (by omega); have : w.heap.size < (x.now).heap.size + 1 + 1 := (by omega); have : w.heap.size ≠ (x.now).heap.size := (by omega); have : w.heap.size ≠ (x.now).heap.size + 1 := (by omega)
      obtain ⟨fk, fkt⟩ := hF.out i hlt
      obtain ⟨f0, f1⟩ := tickB_out.1 fkt
      have cs := fun W => cs.out (l[i].tick - t) W (by omega)
      have ca := fun W => lookAgrees_any l[i] (strV ⟨gx, gy, gu, gv⟩ (l[i].tick - t)) W fk
      unfold LookR.val at ca
      have hm : missB ⟨gx, gy, gu, gv⟩ t l[i] = !(l[i].agrees (strV ⟨gx, gy, gu, gv⟩ (l[i].tick - t))) := rfl
      rw [hm] at hE
      obtain ⟨gt, ga, hga⟩ := val_iface l[i].says
      rw [hga] at q4 ca
      clear fk fkt hm hga
      cases hb : l[i].agrees (strV ⟨gx, gy, gu, gv⟩ (l[i].tick - t))
      · rw [hb] at hE ca
        have hadd := Go.Lib.hid (intsOf_add acc i)
        have key : Hid (i + 1 ≤ l.length ∧ (acc ++ [(i : Int)]).length ≤ i + 1 ∧ missA ⟨gx, gy, gu, gv⟩ t (acc ++ [(i : Int)]) (i + 1) (l.drop (i + 1)) = V) := Go.Lib.hid ⟨hlt, by simpa using hac, by simpa using hE⟩
        clear hE hi hV hb
        generalize strV ⟨gx, gy, gu, gv⟩ (l[i].tick - t) = sv at *
        obtain ⟨s1, s2⟩ := sv
        simp only at cs ca
        generalize l[i].tick = k1 at *
        generalize l[i].frm.x = k2 at *
        generalize l[i].frm.y = k3 at *
        go_wp2_with (first | ((first | with_reducible refine wp_region_ext2 (by kernel_rfl) (by kernel_rfl) ?_ | with_reducible refine wp_region_ext (by kernel_rfl) (by kernel_rfl) ?_); (repeat (first | go_big_quiet_step ((first | (go_at_call 65; with_reducible exact Calls.ext (cs _)) | (go_at_call 55; with_reducible exact Calls.ext (ca _)))) | quiet_step ((first | (go_at_call 65; with_reducible exact Calls.ext (cs _)) | (go_at_call 55; with_reducible exact Calls.ext (ca _)))))); refine wpQuiet_nil ?_; rintro _ ⟨yr, rfl⟩; have syr := Ext.size yr; (repeat (first | rw [World.size_alloc] at syr | rw [World.size_setCell] at syr | rw [World.size_drew] at syr)); have : B < yr.now.heap.size := (by omega); have : B ≤ yr.now.heap.size := (by omega); have : B < yr.now.heap.size + 1 + 1 := (by omega); have : w.heap.size < yr.now.heap.size := (by omega); have : w.heap.size ≤ yr.now.heap.size := (by omega); have : w.heap.size < yr.now.heap.size + 1 + 1 := (by omega)) | (go_at_call 65; (first | with_reducible refine (Calls.giv2 (cs _)).mono ?_ | with_reducible refine (Calls.giv (cs _)).mono ?_); rintro _ _ ⟨y1, rfl, rfl⟩; have sy1 := Ext.size y1; (repeat (first | rw [World.size_alloc] at sy1 | rw [World.size_setCell] at sy1 | rw [World.size_drew] at sy1)); have : B < y1.now.heap.size := (by omega); have : B ≤ y1.now.heap.size := (by omega); have : B < y1.now.heap.size + 1 + 1 := (by omega); have : w.heap.size < y1.now.heap.size := (by omega); have : w.heap.size ≤ y1.now.heap.size := (by omega); have : w.heap.size < y1.now.heap.size + 1 + 1 := (by omega)) | (go_at_call 55; (first | with_reducible refine (Calls.giv2 (ca _)).mono ?_ | with_reducible refine (Calls.giv (ca _)).mono ?_); rintro _ _ ⟨y2, rfl, rfl⟩; have sy2 := Ext.size y2; (repeat (first | rw [World.size_alloc] at sy2 | rw [World.size_setCell] at sy2 | rw [World.size_drew] at sy2)); have : B < y2.now.heap.size := (by omega); have : B ≤ y2.now.heap.size := (by omega); have : B < y2.now.heap.size + 1 + 1 := (by omega); have : w.heap.size < y2.now.heap.size := (by omega); have : w.heap.size ≤ y2.now.heap.size := (by omega); have : w.heap.size < y2.now.heap.size + 1 + 1 := (by omega)) | (at_builtin; refine wpList_append_own _ rfl _ _ 39 rfl W0.heap.size 3 i0 _ 1 8 Try.underlying39 hi0 hz0 hz1 hz2 rfl (by decide) _ acc.length (intsOf acc) rfl (by repeat (first | exact hown | (with_reducible refine World.ownsRow.alloc ?_ _) | (with_reducible refine World.ownsRow.drew ?_) | (with_reducible refine owns_ext ?_ _))) _ 1 1 _ rfl rfl (cells1_new _ _ _) (by intro u hu; simp only [List.mem_cons, List.not_mem_nil, or_false] at hu; subst hu; rfl) (by unfold maxLen; omega) (by omega) (by (try simp only [World.size_alloc]); omega) ?_; intro v' W2 hown' hgrow _; have hbel : Below W0.heap.size W0 W2 := (by refine below_grown (e := 3) (size := 1) (n := acc.length) (xs := intsOf acc) ?_ (by repeat (first | exact hown | (with_reducible refine World.ownsRow.alloc ?_ _) | (with_reducible refine World.ownsRow.drew ?_) | (with_reducible refine owns_ext ?_ _))) (Nat.le_refl _) (by (try simp only [World.size_alloc]); omega) hgrow; repeat' (first | (with_reducible exact Below.refl _ _) | (with_reducible assumption) | (with_reducible refine Ext.below _ ?_ ?_) | (with_reducible refine Below.on ?_ (by with_reducible assumption) ?_) | (with_reducible refine Below.alloc ?_ ?_ _) | (with_reducible refine Below.drew ?_) | (with_reducible refine Below.setCell ?_ ?_ _) | (with_reducible exact Nat.le_refl _) | omega | (simp; done) | (simp [go_sem]; done) | (simp at *; omega)))))
        refine ⟨⟨i + 1, ⟨_, hbel⟩, acc ++ [(i : Int)], by simp, rfl, by rw [hadd.out, List.length_append]; exact hown', key⟩, by simp [intOf]; omega⟩
      · rw [hb] at hE ca
        have key : Hid (i + 1 ≤ l.length ∧ acc.length ≤ i + 1 ∧ missA ⟨gx, gy, gu, gv⟩ t acc (i + 1) (l.drop (i + 1)) = V) := Go.Lib.hid ⟨hlt, by omega, by simpa using hE⟩
        clear hE hi hV hb
        generalize strV ⟨gx, gy, gu, gv⟩ (l[i].tick - t) = sv at *
        obtain ⟨s1, s2⟩ := sv
        simp only at cs ca
        generalize l[i].tick = k1 at *
        generalize l[i].frm.x = k2 at *
        generalize l[i].frm.y = k3 at *
        go_wp2_with (first | ((first | with_reducible refine wp_region_ext2 (by kernel_rfl) (by kernel_rfl) ?_ | with_reducible refine wp_region_ext (by kernel_rfl) (by kernel_rfl) ?_); (repeat (first | go_big_quiet_step ((first | (go_at_call 65; with_reducible exact Calls.ext (cs _)) | (go_at_call 55; with_reducible exact Calls.ext (ca _)))) | quiet_step ((first | (go_at_call 65; with_reducible exact Calls.ext (cs _)) | (go_at_call 55; with_reducible exact Calls.ext (ca _)))))); refine wpQuiet_nil ?_; rintro _ ⟨yr, rfl⟩; have syr := Ext.size yr; (repeat (first | rw [World.size_alloc] at syr | rw [World.size_setCell] at syr | rw [World.size_drew] at syr)); have : B < yr.now.heap.size := (by omega); have : B ≤ yr.now.heap.size := (by omega); have : B < yr.now.heap.size + 1 + 1 := (by omega); have : w.heap.size < yr.now.heap.size := (by omega); have : w.heap.size ≤ yr.now.heap.size := (by omega); have : w.heap.size < yr.now.heap.size + 1 + 1 := (by omega)) | (go_at_call 65; (first | with_reducible refine (Calls.giv2 (cs _)).mono ?_ | with_reducible refine (Calls.giv (cs _)).mono ?_); rintro _ _ ⟨y1, rfl, rfl⟩; have sy1 := Ext.size y1; (repeat (first | rw [World.size_alloc] at sy1 | rw [World.size_setCell] at sy1 | rw [World.size_drew] at sy1)); have : B < y1.now.heap.size := (by omega); have : B ≤ y1.now.heap.size := (by omega); have : B < y1.now.heap.size + 1 + 1 := (by omega); have : w.heap.size < y1.now.heap.size := (by omega); have : w.heap.size ≤ y1.now.heap.size := (by omega); have : w.heap.size < y1.now.heap.size + 1 + 1 := (by omega)) | (go_at_call 55; (first | with_reducible refine (Calls.giv2 (ca _)).mono ?_ | with_reducible refine (Calls.giv (ca _)).mono ?_); rintro _ _ ⟨y2, rfl, rfl⟩; have sy2 := Ext.size y2; (repeat (first | rw [World.size_alloc] at sy2 | rw [World.size_setCell] at sy2 | rw [World.size_drew] at sy2)); have : B < y2.now.heap.size := (by omega); have : B ≤ y2.now.heap.size := (by omega); have : B < y2.now.heap.size + 1 + 1 := (by omega); have : w.heap.size < y2.now.heap.size := (by omega); have : w.heap.size ≤ y2.now.heap.size := (by omega); have : w.heap.size < y2.now.heap.size + 1 + 1 := (by omega)))
        refine ⟨⟨i + 1, ⟨_, ?_⟩, acc, by simp, rfl, ?_, key⟩, by simp [intOf]; omega⟩
        · repeat' (first | (with_reducible exact Below.refl _ _) | (with_reducible assumption) | (with_reducible refine Ext.below _ ?_ ?_) | (with_reducible refine Below.on ?_ (by with_reducible assumption) ?_) | (with_reducible refine Below.alloc ?_ ?_ _) | (with_reducible refine Below.drew ?_) | (with_reducible refine Below.setCell ?_ ?_ _) | (with_reducible exact Nat.le_refl _) | omega | (simp; done) | (simp [go_sem]; done) | (simp at *; omega))
        · dsimp only; exact (by repeat (first | exact hown | (with_reducible refine World.ownsRow.alloc ?_ _) | (with_reducible refine World.ownsRow.drew ?_) | (with_reducible refine owns_ext ?_ _)))
    · have hge : ¬ (i : Int) < l.length := by omega
      have hE := hi.out.2.2
      rw [drop_end hlt, missA] at hE
      clear hi hV
      subst hE
      go_wp2_with (first | ((first | with_reducible refine wp_region_ext2 (by kernel_rfl) (by kernel_rfl) ?_ | with_reducible refine wp_region_ext (by kernel_rfl) (by kernel_rfl) ?_); (repeat (first | go_big_quiet_step ((first | fail)) | quiet_step ((first | fail)))); refine wpQuiet_nil ?_; rintro _ ⟨yr, rfl⟩; have syr := Ext.size yr; (repeat (first | rw [World.size_alloc] at syr | rw [World.size_setCell] at syr | rw [World.size_drew] at syr))))
      go_returns
      refine ⟨?_, _, rfl, owns_base hown (by omega)⟩
      repeat' (first | (with_reducible exact Below.refl _ _) | (with_reducible assumption) | (with_reducible refine Ext.below _ ?_ ?_) | (with_reducible refine Below.on ?_ (by with_reducible assumption) ?_) | (with_reducible refine Below.alloc ?_ ?_ _) | (with_reducible refine Below.drew ?_) | (with_reducible refine Below.setCell ?_ ?_ _) | (with_reducible exact Nat.le_refl _) | omega | (simp; done) | (simp [go_sem]; done) | (simp at *; omega))
end Go.Proofs.Ytehaonlndfjpfaa

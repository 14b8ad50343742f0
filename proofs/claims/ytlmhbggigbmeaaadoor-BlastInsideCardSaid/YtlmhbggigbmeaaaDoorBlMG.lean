/- Contract of NewRing. No condition. Rows that a call has made: what keeps them. No condition. Skies in memory, and what package sky says of them, as plain mathematics. No condition. A ring whose numbers are not told: contracts of what it hands out, by bounds alone. Condition: the ring's block is as NewRing made it. Rocks, stones, airs and lands as plain mathematics: falls through layers, sums over cells, and how far waves run. No condition. -/
import Derived.Test.YtlmhbggigbmeaaaDoorRing
import Derived.WalkLawsBesides
import Derived.Test.YtlmhbggigbmeaaaDoorBase
import Derived.OwnWalk
import Derived.Test.YtlmhbggigbmeaaaDoorKitG
import Derived.LoopTactic
namespace Go.Proofs.YtlmhbggigbmeaaaDoor
open Go.RowKit Go.Shelf
attribute [local go_sem] Ext.cell Ext.frozen Ext.lt Ext.le Ext.lt_add Ext.le_add Ext.ne Ext.ne' lt2 lt3 lt4 lt5 le2 le3 le4
/-- The numbers of a list that came in. -/
structure ListIn (w : World) (p : Option Addr) (len : Nat) (z : Nat → Int) : Prop where
  long : len < 9223372036854775808
  some : len ≠ 0 → ∃ B o, p = some ⟨B, o, none⟩ ∧ B < w.heap.size ∧ ∀ i, i < len → w.cell? ⟨B, o + i, none⟩ = some (.int .i64 (z i)) ∧ I64 (z i)
theorem NewRing_any (p : Option Addr) (len cap : Nat) (w : World) :
    Calls Tryd.prog 10 #[.slice p len cap] w fun e w' => e = .returned (.pointer (some ⟨w.heap.size, 0, none⟩)) ∧ w' = w.alloc (.cells #[.slice p len cap, .int .i64 0] 85) := by
  go_enter Tryd.func10, Tryd.ntmps10
  go_wp2_with (first | ((first | with_reducible refine wrx2 ?_ | with_reducible refine wrx ?_); (repeat (first | go_big_quiet_step ((first | fail)) | quiet_step ((first | fail)))); refine wpQuiet_nil ?_; rintro _ ⟨yr, rfl⟩; have syr := Ext.size yr; (repeat (first | rw [World.size_alloc] at syr | rw [World.size_setCell] at syr | rw [World.size_drew] at syr))))
  go_returns
  exact ⟨rfl, rfl⟩
theorem NewRing_r (p : Option Addr) (len cap : Nat) (z : Nat → Int) (w : World) (h : ListIn w p len z) :
    Calls Tryd.prog 10 #[.slice p len cap] w (fun e w' => ∃ x : Ext w, e = .returned (.pointer (some ⟨w.heap.size, 0, none⟩)) ∧ w' = x.now ∧ w.heap.size < x.now.heap.size ∧ RingAt x.now w.heap.size p len cap z 0) := by
  refine (NewRing_any p len cap w).mono ?_
  rintro e w' ⟨rfl, rfl⟩
  refine ⟨⟨_, (Below.refl _ _).alloc (Nat.le_refl _) _⟩, rfl, rfl, by simp, ?_⟩
  refine ⟨by simp [go_sem], by simp [go_sem], by simp [go_sem], h.long, fun h0 => ?_⟩
  obtain ⟨B, o, hp, hB, hi⟩ := h.some h0
  exact ⟨B, o, hp, hB, fun i hi' => ⟨by have := (hi i hi').1; simp [go_sem, this, hB], (hi i hi').2⟩⟩
end Go.Proofs.YtlmhbggigbmeaaaDoor
namespace Go.Proofs.YtlmhbggigbmeaaaDoor
open Go.RowKit Go.Shelf
section
variable {w w' w0 : World} {base : Nat} {e : TypeId} {size : Nat} {v : Value} {n : Nat} {xs : List Value} {B : Nat}
theorem below_grown (h : Below B w0 w) (hown : w.ownsRow base e size v n xs) (hb : B ≤ base) (hBw : B ≤ w.heap.size) (hg : w.grownBy w' v.ownBlock) : Below B w0 w' :=
  ⟨hg.os.trans h.os, hg.tape.trans h.tape, hg.output.trans h.output, Nat.le_trans h.size hg.size, fun k hk => (hg.block k (by omega) (fun e => by have := hown.lt k e.symm; omega)).trans (h.block k hk)⟩
theorem owns_below (h : w.ownsRow base e size v n xs) (b : Below w.heap.size w w') : w'.ownsRow base e size v n xs :=
  h.kept (row := none) ⟨b.os, b.tape, b.output, b.size, fun k hk _ => b.block k hk⟩ (by cases v.ownBlock <;> simp)
theorem owns_ext (h : w.ownsRow base e size v n xs) (x : Ext w) : x.now.ownsRow base e size v n xs := owns_below h x.grew
theorem owns_base {base' : Nat} (h : w.ownsRow base e size v n xs) (hb : base' ≤ base) : w.ownsRow base' e size v n xs := by
  refine ⟨h.1, ?_⟩
  rcases h.2 with h2 | ⟨g, cap, cur, rfl, hg, rest⟩
  · exact .inl h2
  · exact .inr ⟨g, cap, cur, rfl, by omega, rest⟩
theorem owns_slice (h : w.ownsRow base e size v n xs) : (v = .slice none 0 0 ∧ n = 0) ∨ ∃ g cap, v = .slice (some ⟨g, 0, none⟩) n cap ∧ base ≤ g ∧ g < w.heap.size ∧ ∀ j u, xs[j]? = some u → w.cell? ⟨g, j, none⟩ = some u := by
  rcases h.2 with h2 | ⟨g, cap, cur, rfl, hg, hgg, rest⟩
  · exact .inl h2
  · refine .inr ⟨g, cap, rfl, hg, (Array.getElem?_eq_some_iff.1 hgg).1, fun j u hj => ?_⟩
    have := h.cells (g := g) rfl j u hj
    have hadd : (⟨g, 0, none⟩ : Addr).add j = ⟨g, j, none⟩ := by unfold Addr.add; split <;> simp_all
    rwa [hadd] at this
theorem owns_form (h : w.ownsRow base e size v n xs) : ∃ p c, v = .slice p n c := by
  rcases h.2 with ⟨rfl, rfl⟩ | ⟨g, cap, cur, rfl, _⟩
  · exact ⟨_, _, rfl⟩
  · exact ⟨_, _, rfl⟩
end
end Go.Proofs.YtlmhbggigbmeaaaDoor
namespace Go.Proofs.YtlmhbggigbmeaaaDoor
open Go.RowKit Go.Shelf
structure V2 where
  x : Int
  y : Int
/-- A body: where its track lies, and what is in it. -/
structure BodyR where
  mu : Int
  rad : Int
  tp : Option Addr
  tc : Nat
  track : List V2
structure StR where
  id : Int
  off : V2
structure CatR where
  ver : Int
  lo : Int
  hi : Int
/-- A sky: where its lists lie, and what is in them. -/
structure SkyR where
  bp : Option Addr
  bc : Nat
  bodies : List BodyR
  home : Int
  sp : Option Addr
  sc : Nat
  sts : List StR
  cp : Option Addr
  cc : Nat
  cats : List CatR
/-- Rows of two, of three cells. -/
def VecsAt (W : World) (p : Option Addr) (l : List V2) : Prop := ∀ j (h : j < l.length), ∃ B o, p = some ⟨B, o, none⟩ ∧ B < W.heap.size ∧ W.cell? ⟨B, o + j * 2, none⟩ = some (.int .i64 l[j].x) ∧ W.cell? ⟨B, o + j * 2 + 1, none⟩ = some (.int .i64 l[j].y)
def BodiesAt (W : World) (p : Option Addr) (l : List BodyR) : Prop := ∀ j (h : j < l.length), VecsAt W l[j].tp l[j].track ∧ ∃ B o, p = some ⟨B, o, none⟩ ∧ B < W.heap.size ∧ W.cell? ⟨B, o + j * 3, none⟩ = some (.int .i64 l[j].mu) ∧ W.cell? ⟨B, o + j * 3 + 1, none⟩ = some (.int .i64 l[j].rad) ∧ W.cell? ⟨B, o + j * 3 + 2, none⟩ = some (.slice l[j].tp l[j].track.length l[j].tc)
def StsAt (W : World) (p : Option Addr) (l : List StR) : Prop := ∀ j (h : j < l.length), ∃ B o, p = some ⟨B, o, none⟩ ∧ B < W.heap.size ∧ W.cell? ⟨B, o + j * 3, none⟩ = some (.int .i64 l[j].id) ∧ W.cell? ⟨B, o + j * 3 + 1, none⟩ = some (.int .i64 l[j].off.x) ∧ W.cell? ⟨B, o + j * 3 + 2, none⟩ = some (.int .i64 l[j].off.y)
def CatsAt (W : World) (p : Option Addr) (l : List CatR) : Prop := ∀ j (h : j < l.length), ∃ B o, p = some ⟨B, o, none⟩ ∧ B < W.heap.size ∧ W.cell? ⟨B, o + j * 3, none⟩ = some (.int .i64 l[j].ver) ∧ W.cell? ⟨B, o + j * 3 + 1, none⟩ = some (.int .i64 l[j].lo) ∧ W.cell? ⟨B, o + j * 3 + 2, none⟩ = some (.int .i64 l[j].hi)
structure SkyR.At (s : SkyR) (W : World) : Prop where
  bs : BodiesAt W s.bp s.bodies
  ss : StsAt W s.sp s.sts
  cs : CatsAt W s.cp s.cats
def wval (p : Option Addr) (n c : Nat) (h : Int) : Value := .agg #[.slice p n c, .int .i64 h]
/-- A world in which the cells below are the same. -/
theorem VecsAt.ext {W : World} {p : Option Addr} {l : List V2} (h : VecsAt W p l) (x : Ext W) : VecsAt x.now p l := fun j hj => by
  obtain ⟨B, o, rfl, hB, h1, h2⟩ := h j hj
  exact ⟨B, o, rfl, x.lt hB, (x.cell hB).trans h1, (x.cell hB).trans h2⟩
theorem BodiesAt.ext {W : World} {p : Option Addr} {l : List BodyR} (h : BodiesAt W p l) (x : Ext W) : BodiesAt x.now p l := fun j hj => by
  obtain ⟨ht, B, o, rfl, hB, h1, h2, h3⟩ := h j hj
  exact ⟨ht.ext x, B, o, rfl, x.lt hB, (x.cell hB).trans h1, (x.cell hB).trans h2, (x.cell hB).trans h3⟩
theorem StsAt.ext {W : World} {p : Option Addr} {l : List StR} (h : StsAt W p l) (x : Ext W) : StsAt x.now p l := fun j hj => by
  obtain ⟨B, o, rfl, hB, h1, h2, h3⟩ := h j hj
  exact ⟨B, o, rfl, x.lt hB, (x.cell hB).trans h1, (x.cell hB).trans h2, (x.cell hB).trans h3⟩
theorem CatsAt.ext {W : World} {p : Option Addr} {l : List CatR} (h : CatsAt W p l) (x : Ext W) : CatsAt x.now p l := fun j hj => by
  obtain ⟨B, o, rfl, hB, h1, h2, h3⟩ := h j hj
  exact ⟨B, o, rfl, x.lt hB, (x.cell hB).trans h1, (x.cell hB).trans h2, (x.cell hB).trans h3⟩
theorem SkyR.At.ext {s : SkyR} {W : World} (h : s.At W) (x : Ext W) : s.At x.now := ⟨h.bs.ext x, h.ss.ext x, h.cs.ext x⟩
/-- As they stand in a world that extends. -/
def Ext.of {W W' : World} (h : Below W.heap.size W W') : Ext W := ⟨W', h⟩
theorem VecsAt.on {W W' : World} {p : Option Addr} {l : List V2} (h : VecsAt W p l) (b : Below W.heap.size W W') : VecsAt W' p l := h.ext ⟨W', b⟩
theorem BodiesAt.on {W W' : World} {p : Option Addr} {l : List BodyR} (h : BodiesAt W p l) (b : Below W.heap.size W W') : BodiesAt W' p l := h.ext ⟨W', b⟩
theorem StsAt.on {W W' : World} {p : Option Addr} {l : List StR} (h : StsAt W p l) (b : Below W.heap.size W W') : StsAt W' p l := h.ext ⟨W', b⟩
theorem CatsAt.on {W W' : World} {p : Option Addr} {l : List CatR} (h : CatsAt W p l) (b : Below W.heap.size W W') : CatsAt W' p l := h.ext ⟨W', b⟩
theorem SkyR.At.on {s : SkyR} {W W' : World} (h : s.At W) (b : Below W.heap.size W W') : s.At W' := h.ext ⟨W', b⟩
/-- What package sky says. -/
def winB (n m : Int) : Bool := decide (-m ≤ n ∧ n ≤ m)
def vwinB (v : V2) (m : Int) : Bool := winB v.x m && winB v.y m
def tickB (t : Int) : Bool := decide (0 ≤ t ∧ t ≤ 1073741824)
def cntE (n lo hi : Int) : Int := if n < lo then 6 else if hi < n then 8 else 0
def placesE : List V2 → Int
  | [] => 0
  | v :: l => if vwinB v 33554432 then placesE l else 2
def bodyE (b : BodyR) : Int := if b.mu < 0 ∨ 1125899906842624 < b.mu ∨ b.rad < 0 ∨ 1048576 < b.rad then 2 else if cntE b.track.length 1 4096 = 0 then placesE b.track else cntE b.track.length 1 4096
def bodiesE : List BodyR → Int
  | [] => 0
  | b :: l => if bodyE b = 0 then bodiesE l else bodyE b
def worldE (l : List BodyR) (h : Int) : Int := if cntE l.length 1 8 = 0 then (if bodiesE l = 0 then (if 0 ≤ h ∧ h < l.length then 0 else 7) else bodiesE l) else cntE l.length 1 8
def stsE (last : Int) : List StR → Int
  | [] => 0
  | o :: l => if o.id ≤ last then 11 else if vwinB o.off 1048576 then stsE o.id l else 2
def stationsE (l : List StR) : Int := if 16 < l.length then 8 else stsE 0 l
def ctsE (last : Int) : List CatR → Int
  | [] => 0
  | c :: l => if c.ver ≤ last then 11 else if winB c.lo 500000 && winB c.hi 500000 && decide (c.lo ≤ c.hi) then ctsE c.ver l else 2
def catalogsE (l : List CatR) : Int := if 8 < l.length then 8 else ctsE 0 l
def skyE (s : SkyR) : Int := if worldE s.bodies s.home = 0 then (if stationsE s.sts = 0 then catalogsE s.cats else stationsE s.sts) else worldE s.bodies s.home
/-- The place of a track at a tick. -/
def trackAt (l : List V2) (t : Int) : V2 := l.getD (t % l.length).toNat ⟨0, 0⟩
def bodyAt (l : List BodyR) (b : Int) : List V2 := match l[b.toNat]? with
  | some x => x.track
  | none => []
theorem winB_true {n m : Int} : winB n m = true ↔ -m ≤ n ∧ n ≤ m := by unfold winB; simp
end Go.Proofs.YtlmhbggigbmeaaaDoor
namespace Go.Proofs.YtlmhbggigbmeaaaDoor
open Go.RowKit Go.Shelf
attribute [local go_sem] Ext.cell Ext.frozen Ext.lt Ext.le Ext.lt_add Ext.le_add Ext.ne Ext.ne' lt2 lt3 lt4 lt5 le2 le3 le4
attribute [local go_sem] RExt.cell RExt.frozen RExt.lt RExt.le RExt.lt_add RExt.le_add RExt.ne RExt.ne'
/-- A ring in block b that has handed out at most m numbers. -/
def RingM (w : World) (b m : Nat) : Prop := ∃ p len cap z k, RingAt w b p len cap z k ∧ k ≤ m
theorem RingM.lt {w : World} {b m : Nat} (h : RingM w b m) : b < w.heap.size := by obtain ⟨p, len, cap, z, k, h, _⟩ := h; exact h.lt
theorem RingM.alloc {w : World} {b m : Nat} (h : RingM w b m) (o : Obj) : RingM (w.alloc o) b m := by obtain ⟨p, len, cap, z, k, h, hk⟩ := h; exact ⟨p, len, cap, z, k, h.alloc o, hk⟩
theorem RingM.drew {w : World} {b m : Nat} (h : RingM w b m) : RingM w.drew b m := by obtain ⟨p, len, cap, z, k, h, hk⟩ := h; exact ⟨p, len, cap, z, k, h.drew, hk⟩
theorem RingM.ext {w : World} {b m : Nat} (h : RingM w b m) (x : Ext w) : RingM x.now b m := by obtain ⟨p, len, cap, z, k, h, hk⟩ := h; exact ⟨p, len, cap, z, k, h.ext x, hk⟩
theorem RingM.on {w w' : World} {b m : Nat} (h : RingM w b m) (y : Below w.heap.size w w') : RingM w' b m := h.ext ⟨w', y⟩
theorem RingM.set {w : World} {b m : Nat} (h : RingM w b m) {B o : Nat} (v : Value) (hB : b < B) : RingM (w.setCell ⟨B, o, none⟩ v) b m := by obtain ⟨p, len, cap, z, k, h, hk⟩ := h; exact ⟨p, len, cap, z, k, h.set v hB, hk⟩
theorem RingM.mono {w : World} {b m m' : Nat} (h : RingM w b m) (hm : m ≤ m') : RingM w b m' := by obtain ⟨p, len, cap, z, k, h, hk⟩ := h; exact ⟨p, len, cap, z, k, h, by omega⟩
/-- A write to a row that a call made behind the ring. -/
theorem RingM.grown {w w' : World} {b m base : Nat} {e : TypeId} {size n : Nat} {v : Value} {xs : List Value} (h : RingM w b m) (hown : w.ownsRow base e size v n xs) (hb : b < base) (hg : w.grownBy w' v.ownBlock) : RingM w' b m := by
  obtain ⟨p, len, cap, z, k, h, hk⟩ := h
  have hl := h.lt
  have hs : ∀ B, B ≤ b → w'.heap[B]? = w.heap[B]? := fun B hB => hg.block B (by omega) (fun e => by have := hown.lt B e.symm; omega)
  refine ⟨p, len, cap, z, k, ⟨?_, ?_, ?_, h.long, fun h0 => ?_⟩, hk⟩
  · exact (World.cell?_of_block (a := ⟨b, 0, none⟩) (hs b (Nat.le_refl _))).trans h.list
  · exact (World.cell?_of_block (a := ⟨b, 1, none⟩) (hs b (Nat.le_refl _))).trans h.count
  · exact (World.frozen?_of_block (a := ⟨b, 1, none⟩) (hs b (Nat.le_refl _))).trans h.free
  · obtain ⟨B, o, hp, hB, hi⟩ := h.some h0
    exact ⟨B, o, hp, hB, fun i hi' => ⟨(World.cell?_of_block (a := ⟨B, o + i, none⟩) (hs B (by omega))).trans (hi i hi').1, (hi i hi').2⟩⟩
theorem Next_y (n : Int) (b m : Nat) (w : World) (hm : m < 1000000000) (hn : 0 < n) (hn2 : n < 9223372036854775808) (h : RingM w b m) :
    Calls Tryd.prog 15 #[.pointer (some ⟨b, 0, none⟩), .int .i64 n] w (fun e w' => ∃ (y : RExt w b) (v : Int), e = .returned (.int .i64 v) ∧ (0 ≤ v ∧ v < n) ∧ w' = y.now ∧ RingM y.now b (m + 1)) := by
  obtain ⟨p, len, cap, z, k, h, hk⟩ := h
  refine (Next_r n b p len cap z k w (by omega) hn hn2 h).mono ?_
  rintro e w' ⟨rfl, hb, hr⟩
  exact ⟨⟨w', hb⟩, _, rfl, ⟨Int.emod_nonneg _ (by omega), Int.emod_lt_of_pos _ hn⟩, rfl, p, len, cap, z, k + 1, hr, by omega⟩
theorem owns_belowX {w w' : World} {base : Nat} {e : TypeId} {size : Nat} {v : Value} {n b : Nat} {xs : List Value} (h : w.ownsRow base e size v n xs) (hb : b < base) (y : BelowX b w.heap.size w w') : w'.ownsRow base e size v n xs := by
  refine ⟨h.1, ?_⟩
  rcases h.2 with h2 | ⟨g, cap, cur, rfl, hg, hgg, rest⟩
  · exact .inl h2
  · exact .inr ⟨g, cap, cur, rfl, hg, (y.block g (Array.getElem?_eq_some_iff.1 hgg).1 (by omega)).trans hgg, rest⟩
theorem belowX_grown {w w' w0 : World} {base : Nat} {e : TypeId} {size : Nat} {v : Value} {n b B : Nat} {xs : List Value} (h : BelowX b B w0 w) (hown : w.ownsRow base e size v n xs) (hb : B ≤ base) (hBw : B ≤ w.heap.size) (hg : w.grownBy w' v.ownBlock) : BelowX b B w0 w' :=
  ⟨hg.os.trans h.os, hg.tape.trans h.tape, hg.output.trans h.output, Nat.le_trans h.size hg.size, fun k hk hkb => (hg.block k (by omega) (fun e => by have := hown.lt k e.symm; omega)).trans (h.block k hk hkb)⟩
end Go.Proofs.YtlmhbggigbmeaaaDoor
namespace Go.Proofs.YtlmhbggigbmeaaaDoor
open Go.RowKit Go.Shelf
theorem wp_named {c : Code} {P : Program} {Q : Exit → Act → World → Prop} {a : Act} {w : World} (h : ∀ W0, w = W0 → c.wp P Q a W0) : c.wp P Q a w := h w rfl
structure StoneR where
  size : Int
  dens : Int
  strong : Int
  spin : Int
  shape : Int
  pile : Bool
  speed : Int
  slope : Int
def StoneR.vals (s : StoneR) : Array Value := #[.int .i64 s.size, .int .i64 s.dens, .int .i64 s.strong, .int .i64 s.spin, .int .i64 s.shape, .bool s.pile, .int .i64 s.speed, .int .i64 s.slope]
def StoneR.val (s : StoneR) : Value := .agg s.vals
structure RockR where
  size : V2
  dens : V2
  strong : V2
  spin : V2
  shape : V2
  pile : Bool
def RockR.val (k : RockR) : Value := .agg #[.int .i64 k.size.x, .int .i64 k.size.y, .int .i64 k.dens.x, .int .i64 k.dens.y, .int .i64 k.strong.x, .int .i64 k.strong.y, .int .i64 k.spin.x, .int .i64 k.spin.y, .int .i64 k.shape.x, .int .i64 k.shape.y, .bool k.pile]
structure FallR where
  speed : V2
  slope : V2
def FallR.val (f : FallR) : Value := .agg #[.int .i64 f.speed.x, .int .i64 f.speed.y, .int .i64 f.slope.x, .int .i64 f.slope.y]
/-- The numbers that a stone may have. -/
def inB2 (a b n : Int) : Prop := a ≤ n ∧ n ≤ b
structure StoneR.Ok (s : StoneR) : Prop where
  size : 1 ≤ s.size ∧ s.size ≤ 1000
  dens : 1 ≤ s.dens ∧ s.dens ≤ 9000
  strong : 0 ≤ s.strong ∧ s.strong ≤ 1099511627776
  spin : 0 ≤ s.spin ∧ s.spin ≤ 1000
  shape : 500 ≤ s.shape ∧ s.shape ≤ 2000
  speed : 1 ≤ s.speed ∧ s.speed ≤ 8000
  slope : 1 ≤ s.slope ∧ s.slope ≤ 1000
def stoneB (s : StoneR) : Bool := decide ((1 ≤ s.size ∧ s.size ≤ 1000) ∧ (1 ≤ s.dens ∧ s.dens ≤ 9000) ∧ (0 ≤ s.strong ∧ s.strong ≤ 1099511627776) ∧ (0 ≤ s.spin ∧ s.spin ≤ 1000) ∧ (500 ≤ s.shape ∧ s.shape ≤ 2000) ∧ (1 ≤ s.speed ∧ s.speed ≤ 8000) ∧ (1 ≤ s.slope ∧ s.slope ≤ 1000))
theorem stoneB_ok {s : StoneR} : stoneB s = true ↔ s.Ok := by
  unfold stoneB
  simp only [decide_eq_true_eq]
  exact ⟨fun ⟨a, b, c, d, e, f, g⟩ => ⟨a, b, c, d, e, f, g⟩, fun ⟨a, b, c, d, e, f, g⟩ => ⟨a, b, c, d, e, f, g⟩⟩
def stoneE (s : StoneR) : Int := if stoneB s = true then 0 else 2
def massV (s : StoneR) : Int := s.size * s.size * s.size * s.dens / 1000
def holdsV (s : StoneR) : Int := if s.pile = true then s.strong * (1000 - s.spin) / 1000 else s.strong
def massI (s : StoneR) : Int := if stoneB s = true then massV s else 0
def holdsI (s : StoneR) : Int := if stoneB s = true then holdsV s else 0
def lysE : List V2 → Int
  | [] => 0
  | v :: l => if (1 ≤ v.x ∧ v.x ≤ 1000) ∧ 0 ≤ v.y ∧ v.y ≤ 1000 then lysE l else 2
def airE (l : List V2) : Int := if 32 < l.length then 8 else lysE l
theorem lysE_ok {l : List V2} : lysE l = 0 ↔ ∀ v ∈ l, (1 ≤ v.x ∧ v.x ≤ 1000) ∧ 0 ≤ v.y ∧ v.y ≤ 1000 := by
  induction l with
  | nil => simp [lysE]
  | cons v l ih =>
    unfold lysE
    split
    · rename_i h; rw [ih]; simp [h]
    · rename_i h
      simp only [List.mem_cons, forall_eq_or_imp, h, false_and, iff_false]
      decide
/-- What is left of w behind a layer. -/
def stp (w k d : Int) : Int := w - min (w * k / d) w
theorem stp_eq (w k d : Int) : stp w k d = max (w - w * k / d) 0 := by unfold stp; omega
theorem stp_nonneg (w k d : Int) : 0 ≤ stp w k d := by rw [stp_eq]; omega
theorem stp_le {w k d : Int} (hw : 0 ≤ w) (hk : 0 ≤ k) (hd : 0 < d) : stp w k d ≤ w := by
  have := Int.ediv_nonneg (Int.mul_nonneg hw hk) (Int.le_of_lt hd)
  rw [stp_eq]; omega
theorem div_mono_num {a b d : Int} (h : a ≤ b) (hd : 0 < d) : a / d ≤ b / d := Int.ediv_le_ediv hd h
theorem div_anti {a d e : Int} (ha : 0 ≤ a) (hd : 0 < d) (h : d ≤ e) : a / e ≤ a / d := by
  have he : 0 < e := by omega
  refine (Int.le_ediv_iff_mul_le hd).2 ?_
  have h1 : 0 ≤ a / e := Int.ediv_nonneg ha (by omega)
  have h2 := Int.mul_le_mul_of_nonneg_left h h1
  have h3 := Int.ediv_mul_le a (show e ≠ 0 by omega)
  omega
theorem stp_k {w k k' d : Int} (hw : 0 ≤ w) (h : k' ≤ k) (hd : 0 < d) : stp w k d ≤ stp w k' d := by
  have := div_mono_num (Int.mul_le_mul_of_nonneg_left h hw) hd
  rw [stp_eq, stp_eq]; omega
theorem stp_d {w k d d' : Int} (hw : 0 ≤ w) (hk : 0 ≤ k) (hd : 0 < d) (h : d ≤ d') : stp w k d ≤ stp w k d' := by
  have := div_anti (Int.mul_nonneg hw hk) hd h
  rw [stp_eq, stp_eq]; omega
theorem stp_w {w w' k d : Int} (hw : 0 ≤ w) (h : w ≤ w') (hd : 0 < d) : stp w k d ≤ stp w' k d := by
  rw [stp_eq, stp_eq]
  rcases Int.le_total k d with h1 | h1
  · have e : w' * k ≤ w * k + (w' - w) * d := by
      have := Int.mul_le_mul_of_nonneg_left h1 (show 0 ≤ w' - w by omega)
      have e2 : w' * k = w * k + (w' - w) * k := by grind
      omega
    have h2 := div_mono_num e hd
    rw [Int.add_mul_ediv_right _ _ (show d ≠ 0 by omega)] at h2
    omega
  · have e : w * d ≤ w * k := Int.mul_le_mul_of_nonneg_left h1 hw
    have h2 := (Int.le_ediv_iff_mul_le hd).2 e
    omega
theorem stp_mono {w w' k k' d d' : Int} (hw : 0 ≤ w) (h : w ≤ w') (hk : 0 ≤ k') (h1 : k' ≤ k) (hd : 0 < d) (h2 : d ≤ d') : stp w k d ≤ stp w' k' d' := by
  have a := stp_k hw h1 hd
  have b := stp_d hw hk hd h2
  have c := stp_w (k := k') hw h (show 0 < d' by omega)
  omega
/-- In which layer a stone ends, and its w there. -/
def fallI (h : Int) (K : V2 → Int) (D : Int) : List V2 → Int → Int → Int × Int
  | [], n, w => (n, w)
  | v :: l, n, w => if 0 < v.y * w ∧ h ≤ v.y * w then (n, w) else fallI h K D l (n + 1) (stp w (K v) D)
theorem fall_ge (h : Int) (K : V2 → Int) (D : Int) : ∀ (l : List V2) (n w : Int), n ≤ (fallI h K D l n w).1
  | [], n, w => by simp [fallI]
  | v :: l, n, w => by
    unfold fallI
    split
    · simp
    · have := fall_ge h K D l (n + 1) (stp w (K v) D); omega
theorem fall_strong {h h' : Int} (hh : h ≤ h') (K : V2 → Int) (D : Int) : ∀ (l : List V2) (n w : Int), (fallI h K D l n w).1 ≤ (fallI h' K D l n w).1
  | [], n, w => by simp [fallI]
  | v :: l, n, w => by
    unfold fallI
    by_cases h1 : 0 < v.y * w ∧ h ≤ v.y * w
    · rw [if_pos h1]
      exact fall_ge h' K D (v :: l) n w
    · rw [if_neg h1, if_neg (by omega)]
      exact fall_strong hh K D l _ _
theorem fall_fast {h : Int} {K : V2 → Int} {D : Int} (hD : 0 < D) : ∀ (l : List V2) (n w w' : Int), (∀ v ∈ l, 0 ≤ v.y ∧ 0 ≤ K v) → 0 ≤ w → w ≤ w' → (fallI h K D l n w').1 ≤ (fallI h K D l n w).1
  | [], n, w, w', _, _, _ => by simp [fallI]
  | v :: l, n, w, w', hl, h0, hw => by
    obtain ⟨hv, hK⟩ := hl v (by simp)
    have h2 := Int.mul_le_mul_of_nonneg_left hw hv
    by_cases h1 : 0 < v.y * w ∧ h ≤ v.y * w
    · have h3 : 0 < v.y * w' ∧ h ≤ v.y * w' := by omega
      unfold fallI
      rw [if_pos h1, if_pos h3]; exact Int.le_refl _
    · have := fall_ge h K D (v :: l) n w
      by_cases h3 : 0 < v.y * w' ∧ h ≤ v.y * w'
      · rw [show fallI h K D (v :: l) n w' = (n, w') by unfold fallI; rw [if_pos h3]]; exact this
      · unfold fallI
        rw [if_neg h1, if_neg h3]
        exact fall_fast hD l _ _ _ (fun u hu => hl u (by simp [hu])) (stp_nonneg _ _ _) (stp_mono h0 hw hK (Int.le_refl _) hD (Int.le_refl _))
theorem fall_thick {h : Int} {K : V2 → Int} {D : Int} (hD : 0 < D) (f : V2 → V2) (hf : ∀ v, (f v).y = v.y) : ∀ (l : List V2) (n w w' : Int), (∀ v ∈ l, 0 ≤ v.y ∧ 0 ≤ K v ∧ K v ≤ K (f v)) → 0 ≤ w' → w' ≤ w →
    (fallI h K D l n w).1 ≤ (fallI h K D (l.map f) n w').1 ∧ ((fallI h K D (l.map f) n w').1 = (fallI h K D l n w).1 → (fallI h K D (l.map f) n w').2 ≤ (fallI h K D l n w).2)
  | [], n, w, w', _, _, hw => by simp [fallI, hw]
  | v :: l, n, w, w', hl, h0, hw => by
    obtain ⟨hv, hK, hK2⟩ := hl v (by simp)
    have h2 := Int.mul_le_mul_of_nonneg_left hw hv
    have h4 := fall_ge h K D (l.map f) (n + 1) (stp w' (K (f v)) D)
    simp only [List.map_cons]
    unfold fallI
    rw [hf v]
    by_cases h1 : 0 < v.y * w' ∧ h ≤ v.y * w'
    · have h3 : 0 < v.y * w ∧ h ≤ v.y * w := by omega
      rw [if_pos h1, if_pos h3]; simp [hw]
    · rw [if_neg h1]
      by_cases h3 : 0 < v.y * w ∧ h ≤ v.y * w
      · rw [if_pos h3]; simp only; omega
      · rw [if_neg h3]
        exact fall_thick hD f hf l _ _ _ (fun u hu => hl u (by simp [hu])) (stp_nonneg _ _ _) (stp_mono h0 hw hK hK2 hD (Int.le_refl _))
theorem fall_w {h : Int} {K : V2 → Int} {D B : Int} (hD : 0 < D) : ∀ (l : List V2) (n w : Int), (∀ v ∈ l, 0 ≤ K v) → 0 ≤ w → w ≤ B → 0 ≤ (fallI h K D l n w).2 ∧ (fallI h K D l n w).2 ≤ B ∧ (fallI h K D l n w).1 ≤ n + l.length
  | [], n, w, _, h0, hw => by simp [fallI, hw, h0]
  | v :: l, n, w, hl, h0, hw => by
    unfold fallI
    split
    · simp only [List.length_cons]; omega
    · have h1 := stp_le h0 (hl v (by simp)) hD
      have := fall_w (h := h) (B := B) hD l (n + 1) (stp w (K v) D) (fun u hu => hl u (by simp [hu])) (stp_nonneg _ _ _) (by omega)
      simp only [List.length_cons]; omega
/-- The people of the first cells; of the cells from one to another one. -/
def psum (l : List Int) (k : Int) : Int := (l.take k.toNat).sum
def seg (l : List Int) (a b : Int) : Int := psum l (b + 1) - psum l a
theorem psum_succ {l : List Int} {k : Int} (h0 : 0 ≤ k) (h1 : k < l.length) : psum l (k + 1) = psum l k + l[k.toNat]'(by omega) := by
  unfold psum
  rw [show (k + 1).toNat = k.toNat + 1 by omega, List.take_succ_eq_append_getElem (by omega), List.sum_append]
  simp
theorem psum_mono {l : List Int} (hl : ∀ x ∈ l, 0 ≤ x) : ∀ {a b : Int}, a ≤ b → psum l a ≤ psum l b := by
  have key : ∀ (n m : Nat), (l.take n).sum ≤ (l.take (n + m)).sum := by
    intro n m
    induction m with
    | zero => simp
    | succ m ih =>
      refine Int.le_trans ih ?_
      rw [← Nat.add_assoc]
      by_cases h : n + m < l.length
      · rw [List.take_succ_eq_append_getElem h, List.sum_append]
        have := hl l[n + m] (List.getElem_mem h)
        simp; omega
      · rw [List.take_of_length_le (by omega), List.take_of_length_le (by omega)]; exact Int.le_refl _
  intro a b h
  unfold psum
  have := key a.toNat (b.toNat - a.toNat)
  rwa [show a.toNat + (b.toNat - a.toNat) = b.toNat by omega] at this
theorem psum_all {l : List Int} {k : Int} (h : l.length ≤ k) : psum l k = l.sum := by
  unfold psum; rw [List.take_of_length_le (by omega)]
theorem psum_zero {l : List Int} {k : Int} (h : k ≤ 0) : psum l k = 0 := by
  unfold psum; rw [show k.toNat = 0 by omega]; simp
theorem seg_mono {l : List Int} (hl : ∀ x ∈ l, 0 ≤ x) {a b a' b' : Int} (h1 : a' ≤ a) (h2 : b ≤ b') : seg l a b ≤ seg l a' b' := by
  have := psum_mono hl h1
  have := psum_mono hl (show b + 1 ≤ b' + 1 by omega)
  unfold seg; omega
theorem seg_cell {l : List Int} {a : Int} (h0 : 0 ≤ a) (h1 : a < l.length) : seg l a a = l[a.toNat]'(by omega) := by
  unfold seg; rw [psum_succ h0 h1]; omega
theorem seg_all {l : List Int} : seg l 0 (l.length - 1) = l.sum := by
  unfold seg; rw [show (l.length : Int) - 1 + 1 = l.length by omega, psum_all (Int.le_refl _), psum_zero (Int.le_refl _)]; omega
/-- What a sum over a part of a list is. -/
theorem seg_part {l : List Int} {a b : Int} (h0 : 0 ≤ a) (h1 : a ≤ b + 1) : ((l.drop a.toNat).take (b + 1 - a).toNat).sum = seg l a b := by
  unfold seg psum
  have : l.take (b + 1).toNat = l.take a.toNat ++ (l.drop a.toNat).take (b + 1 - a).toNat := by
    rw [show (b + 1).toNat = a.toNat + (b + 1 - a).toNat by omega, List.take_add]
  rw [this, List.sum_append]; omega
/-- To which cell a wave runs: one step at a time. -/
def runI (wt : List Bool) (to : Int) : Nat → Int → Int
  | 0, at' => at'
  | k + 1, at' => if wt.getD at'.toNat false = true ∧ 0 ≤ at' + to ∧ at' + to < wt.length then runI wt to k (at' + to) else at'
theorem run_left (wt : List Bool) : ∀ (k : Nat) (a : Int), 0 ≤ a → 0 ≤ runI wt (-1) k a ∧ a - k ≤ runI wt (-1) k a ∧ runI wt (-1) k a ≤ a
  | 0, a, h => by simp [runI]; omega
  | k + 1, a, h => by
    unfold runI
    split
    · have := run_left wt k (a + -1) (by omega); omega
    · omega
theorem run_right (wt : List Bool) : ∀ (k : Nat) (a : Int), a < wt.length → a ≤ runI wt 1 k a ∧ runI wt 1 k a ≤ a + k ∧ runI wt 1 k a < wt.length
  | 0, a, h => by simp [runI]; omega
  | k + 1, a, h => by
    unfold runI
    split
    · have := run_right wt k (a + 1) (by omega); omega
    · omega
theorem run_left_more (wt : List Bool) (m : Nat) : ∀ (k : Nat) (a : Int), 0 ≤ a → runI wt (-1) (k + m) a ≤ runI wt (-1) k a
  | 0, a, h => by have := run_left wt (0 + m) a h; simp only [runI]; omega
  | k + 1, a, h => by
    rw [show k + 1 + m = (k + m) + 1 by omega]
    unfold runI
    split
    · exact run_left_more wt m k _ (by omega)
    · omega
theorem run_right_more (wt : List Bool) (m : Nat) : ∀ (k : Nat) (a : Int), a < wt.length → runI wt 1 k a ≤ runI wt 1 (k + m) a
  | 0, a, h => by have := run_right wt (0 + m) a h; simp only [runI]; omega
  | k + 1, a, h => by
    rw [show k + 1 + m = (k + m) + 1 by omega]
    unfold runI
    split
    · exact run_right_more wt m k _ (by omega)
    · omega
end Go.Proofs.YtlmhbggigbmeaaaDoor

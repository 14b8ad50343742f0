/- Contract of NewRing. No condition. Rows that a call has made: what keeps them. No condition. Skies in memory, and what package sky says of them, as plain mathematics. No condition. -/
import Derived.Test.YtlhihmfefipehaaRing
import Derived.WalkLawsBesides
import Derived.Test.YtlhihmfefipehaaBase
import Derived.OwnWalk
import Derived.Test.YtlhihmfefipehaaTail
import Derived.LoopTactic
namespace Go.Proofs.Ytlhihmfefipehaa
open Go.RowKit Go.Shelf
attribute [local go_sem] Ext.cell Ext.frozen Ext.lt Ext.le Ext.lt_add Ext.le_add Ext.ne Ext.ne' lt2 lt3 lt4 lt5 le2 le3 le4
/-- The numbers of a list that came in. -/
structure ListIn (w : World) (p : Option Addr) (len : Nat) (z : Nat → Int) : Prop where
  long : len < 9223372036854775808
  some : len ≠ 0 → ∃ B o, p = some ⟨B, o, none⟩ ∧ B < w.heap.size ∧ ∀ i, i < len → w.cell? ⟨B, o + i, none⟩ = some (.int .i64 (z i)) ∧ I64 (z i)
theorem NewRing_any (p : Option Addr) (len cap : Nat) (w : World) :
    Calls Try.prog 23 #[.slice p len cap] w fun e w' => e = .returned (.pointer (some ⟨w.heap.size, 0, none⟩)) ∧ w' = w.alloc (.cells #[.slice p len cap, .int .i64 0] 102) := by
  go_enter Try.func23, Try.ntmps23
  go_wp2_with (first | ((first | with_reducible refine wrx2 ?_ | with_reducible refine wrx ?_); (repeat (first | go_big_quiet_step ((first | fail)) | quiet_step ((first | fail)))); refine wpQuiet_nil ?_; rintro _ ⟨yr, rfl⟩; have syr := Ext.size yr; (repeat (first | rw [World.size_alloc] at syr | rw [World.size_setCell] at syr | rw [World.size_drew] at syr))))
  go_returns
  exact ⟨rfl, rfl⟩
theorem NewRing_r (p : Option Addr) (len cap : Nat) (z : Nat → Int) (w : World) (h : ListIn w p len z) :
    Calls Try.prog 23 #[.slice p len cap] w (fun e w' => ∃ x : Ext w, e = .returned (.pointer (some ⟨w.heap.size, 0, none⟩)) ∧ w' = x.now ∧ w.heap.size < x.now.heap.size ∧ RingAt x.now w.heap.size p len cap z 0) := by
  refine (NewRing_any p len cap w).mono ?_
  rintro e w' ⟨rfl, rfl⟩
  refine ⟨⟨_, (Below.refl _ _).alloc (Nat.le_refl _) _⟩, rfl, rfl, by simp, ?_⟩
  refine ⟨by simp [go_sem], by simp [go_sem], by simp [go_sem], h.long, fun h0 => ?_⟩
  obtain ⟨B, o, hp, hB, hi⟩ := h.some h0
  exact ⟨B, o, hp, hB, fun i hi' => ⟨by have := (hi i hi').1; simp [go_sem, this, hB], (hi i hi').2⟩⟩
end Go.Proofs.Ytlhihmfefipehaa
namespace Go.Proofs.Ytlhihmfefipehaa
open Go.RowKit Go.Shelf
section
variable {w w' w0 : World} {base : Nat} {e : TypeId} {size : Nat} {v : Value} {n : Nat} {xs : List Value} {B : Nat}
theorem below_grown (h : Below B w0 w) (hown : w.ownsRow base e size v n xs) (hb : B ≤ base) (hBw : B ≤ w.heap.size) (hg : w.grownBy w' v.ownBlock) : Below B w0 w' :=
  ⟨hg.os.trans h.os, hg.tape.trans h.tape, hg.output.trans h.output, Nat.le_trans h.size hg.size, fun k hk => (hg.block k (by omega) (fun e => by have := hown.lt k e.symm; omega)).trans (h.block k hk)⟩
theorem owns_below (h : w.ownsRow base e size v n xs) (b : Below w.heap.size w w') : w'.ownsRow base e size v n xs :=
  h.kept (row := none) ⟨b.os, b.tape, b.output, b.size, fun k hk _ => b.block k hk⟩ (by cases v.ownBlock <;> simp)
theorem owns_ext (h : w.ownsRow base e size v n xs) (x : Ext w) : x.now.ownsRow base e size v n xs := owns_below h x.grew
theorem owns_base {base' : Nat} (h : w.ownsRow base e size v n xs) (hb : base' ≤ base) : w.ownsRow base' e size v n xs := by
  refine ⟨h.1, ?_⟩
  rcases h.2 with h2 | ⟨g, cap, cur, rfl, hg, rest⟩
  · exact .inl h2
  · exact .inr ⟨g, cap, cur, rfl, by omega, rest⟩
theorem owns_slice (h : w.ownsRow base e size v n xs) : (v = .slice none 0 0 ∧ n = 0) ∨ ∃ g cap, v = .slice (some ⟨g, 0, none⟩) n cap ∧ base ≤ g ∧ g < w.heap.size ∧ ∀ j u, xs[j]? = some u → w.cell? ⟨g, j, none⟩ = some u := by
  rcases h.2 with h2 | ⟨g, cap, cur, rfl, hg, hgg, rest⟩
  · exact .inl h2
  · refine .inr ⟨g, cap, rfl, hg, (Array.getElem?_eq_some_iff.1 hgg).1, fun j u hj => ?_⟩
    have := h.cells (g := g) rfl j u hj
    have hadd : (⟨g, 0, none⟩ : Addr).add j = ⟨g, j, none⟩ := by unfold Addr.add; split <;> simp_all
    rwa [hadd] at this
theorem owns_form (h : w.ownsRow base e size v n xs) : ∃ p c, v = .slice p n c := by
  rcases h.2 with ⟨rfl, rfl⟩ | ⟨g, cap, cur, rfl, _⟩
  · exact ⟨_, _, rfl⟩
  · exact ⟨_, _, rfl⟩
end
end Go.Proofs.Ytlhihmfefipehaa
namespace Go.Proofs.Ytlhihmfefipehaa
open Go.RowKit Go.Shelf
structure V2 where
  x : Int
  y : Int
/-- A body: where its track lies, and what is in it. -/
structure BodyR where
  mu : Int
  rad : Int
  tp : Option Addr
  tc : Nat
  track : List V2
structure StR where
  id : Int
  off : V2
structure CatR where
  ver : Int
  lo : Int
  hi : Int
/-- A sky: where its lists lie, and what is in them. -/
structure SkyR where
  bp : Option Addr
  bc : Nat
  bodies : List BodyR
  home : Int
  sp : Option Addr
  sc : Nat
  sts : List StR
  cp : Option Addr
  cc : Nat
  cats : List CatR
/-- Rows of two, of three cells. -/
def VecsAt (W : World) (p : Option Addr) (l : List V2) : Prop := ∀ j (h : j < l.length), ∃ B o, p = some ⟨B, o, none⟩ ∧ B < W.heap.size ∧ W.cell? ⟨B, o + j * 2, none⟩ = some (.int .i64 l[j].x) ∧ W.cell? ⟨B, o + j * 2 + 1, none⟩ = some (.int .i64 l[j].y)
def BodiesAt (W : World) (p : Option Addr) (l : List BodyR) : Prop := ∀ j (h : j < l.length), VecsAt W l[j].tp l[j].track ∧ ∃ B o, p = some ⟨B, o, none⟩ ∧ B < W.heap.size ∧ W.cell? ⟨B, o + j * 3, none⟩ = some (.int .i64 l[j].mu) ∧ W.cell? ⟨B, o + j * 3 + 1, none⟩ = some (.int .i64 l[j].rad) ∧ W.cell? ⟨B, o + j * 3 + 2, none⟩ = some (.slice l[j].tp l[j].track.length l[j].tc)
def StsAt (W : World) (p : Option Addr) (l : List StR) : Prop := ∀ j (h : j < l.length), ∃ B o, p = some ⟨B, o, none⟩ ∧ B < W.heap.size ∧ W.cell? ⟨B, o + j * 3, none⟩ = some (.int .i64 l[j].id) ∧ W.cell? ⟨B, o + j * 3 + 1, none⟩ = some (.int .i64 l[j].off.x) ∧ W.cell? ⟨B, o + j * 3 + 2, none⟩ = some (.int .i64 l[j].off.y)
def CatsAt (W : World) (p : Option Addr) (l : List CatR) : Prop := ∀ j (h : j < l.length), ∃ B o, p = some ⟨B, o, none⟩ ∧ B < W.heap.size ∧ W.cell? ⟨B, o + j * 3, none⟩ = some (.int .i64 l[j].ver) ∧ W.cell? ⟨B, o + j * 3 + 1, none⟩ = some (.int .i64 l[j].lo) ∧ W.cell? ⟨B, o + j * 3 + 2, none⟩ = some (.int .i64 l[j].hi)
structure SkyR.At (s : SkyR) (W : World) : Prop where
  bs : BodiesAt W s.bp s.bodies
  ss : StsAt W s.sp s.sts
  cs : CatsAt W s.cp s.cats
def wval (p : Option Addr) (n c : Nat) (h : Int) : Value := .agg #[.slice p n c, .int .i64 h]
/-- A world in which the cells below are the same. -/
theorem VecsAt.ext {W : World} {p : Option Addr} {l : List V2} (h : VecsAt W p l) (x : Ext W) : VecsAt x.now p l := fun j hj => by
  obtain ⟨B, o, rfl, hB, h1, h2⟩ := h j hj
  exact ⟨B, o, rfl, x.lt hB, (x.cell hB).trans h1, (x.cell hB).trans h2⟩
theorem BodiesAt.ext {W : World} {p : Option Addr} {l : List BodyR} (h : BodiesAt W p l) (x : Ext W) : BodiesAt x.now p l := fun j hj => by
  obtain ⟨ht, B, o, rfl, hB, h1, h2, h3⟩ := h j hj
  exact ⟨ht.ext x, B, o, rfl, x.lt hB, (x.cell hB).trans h1, (x.cell hB).trans h2, (x.cell hB).trans h3⟩
theorem StsAt.ext {W : World} {p : Option Addr} {l : List StR} (h : StsAt W p l) (x : Ext W) : StsAt x.now p l := fun j hj => by
  obtain ⟨B, o, rfl, hB, h1, h2, h3⟩ := h j hj
  exact ⟨B, o, rfl, x.lt hB, (x.cell hB).trans h1, (x.cell hB).trans h2, (x.cell hB).trans h3⟩
theorem CatsAt.ext {W : World} {p : Option Addr} {l : List CatR} (h : CatsAt W p l) (x : Ext W) : CatsAt x.now p l := fun j hj => by
  obtain ⟨B, o, rfl, hB, h1, h2, h3⟩ := h j hj
  exact ⟨B, o, rfl, x.lt hB, (x.cell hB).trans h1, (x.cell hB).trans h2, (x.cell hB).trans h3⟩
theorem SkyR.At.ext {s : SkyR} {W : World} (h : s.At W) (x : Ext W) : s.At x.now := ⟨h.bs.ext x, h.ss.ext x, h.cs.ext x⟩
/-- As they stand in a world that extends. -/
def Ext.of {W W' : World} (h : Below W.heap.size W W') : Ext W := ⟨W', h⟩
theorem VecsAt.on {W W' : World} {p : Option Addr} {l : List V2} (h : VecsAt W p l) (b : Below W.heap.size W W') : VecsAt W' p l := h.ext ⟨W', b⟩
theorem BodiesAt.on {W W' : World} {p : Option Addr} {l : List BodyR} (h : BodiesAt W p l) (b : Below W.heap.size W W') : BodiesAt W' p l := h.ext ⟨W', b⟩
theorem StsAt.on {W W' : World} {p : Option Addr} {l : List StR} (h : StsAt W p l) (b : Below W.heap.size W W') : StsAt W' p l := h.ext ⟨W', b⟩
theorem CatsAt.on {W W' : World} {p : Option Addr} {l : List CatR} (h : CatsAt W p l) (b : Below W.heap.size W W') : CatsAt W' p l := h.ext ⟨W', b⟩
theorem SkyR.At.on {s : SkyR} {W W' : World} (h : s.At W) (b : Below W.heap.size W W') : s.At W' := h.ext ⟨W', b⟩
/-- What package sky says. -/
def winB (n m : Int) : Bool := decide (-m ≤ n ∧ n ≤ m)
def vwinB (v : V2) (m : Int) : Bool := winB v.x m && winB v.y m
def tickB (t : Int) : Bool := decide (0 ≤ t ∧ t ≤ 1073741824)
def cntE (n lo hi : Int) : Int := if n < lo then 6 else if hi < n then 8 else 0
def placesE : List V2 → Int
  | [] => 0
  | v :: l => if vwinB v 33554432 then placesE l else 2
def bodyE (b : BodyR) : Int := if b.mu < 0 ∨ 1125899906842624 < b.mu ∨ b.rad < 0 ∨ 1048576 < b.rad then 2 else if cntE b.track.length 1 4096 = 0 then placesE b.track else cntE b.track.length 1 4096
def bodiesE : List BodyR → Int
  | [] => 0
  | b :: l => if bodyE b = 0 then bodiesE l else bodyE b
def worldE (l : List BodyR) (h : Int) : Int := if cntE l.length 1 8 = 0 then (if bodiesE l = 0 then (if 0 ≤ h ∧ h < l.length then 0 else 7) else bodiesE l) else cntE l.length 1 8
def stsE (last : Int) : List StR → Int
  | [] => 0
  | o :: l => if o.id ≤ last then 11 else if vwinB o.off 1048576 then stsE o.id l else 2
def stationsE (l : List StR) : Int := if 16 < l.length then 8 else stsE 0 l
def ctsE (last : Int) : List CatR → Int
  | [] => 0
  | c :: l => if c.ver ≤ last then 11 else if winB c.lo 500000 && winB c.hi 500000 && decide (c.lo ≤ c.hi) then ctsE c.ver l else 2
def catalogsE (l : List CatR) : Int := if 8 < l.length then 8 else ctsE 0 l
def skyE (s : SkyR) : Int := if worldE s.bodies s.home = 0 then (if stationsE s.sts = 0 then catalogsE s.cats else stationsE s.sts) else worldE s.bodies s.home
/-- The place of a track at a tick. -/
def trackAt (l : List V2) (t : Int) : V2 := l.getD (t % l.length).toNat ⟨0, 0⟩
def bodyAt (l : List BodyR) (b : Int) : List V2 := match l[b.toNat]? with
  | some x => x.track
  | none => []
theorem winB_true {n m : Int} : winB n m = true ↔ -m ≤ n ∧ n ≤ m := by unfold winB; simp
end Go.Proofs.Ytlhihmfefipehaa

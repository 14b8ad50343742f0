/- Skies in memory, and what package sky says of them, as plain mathematics. No condition. -/
import Derived.Test.YtpiacndnjehbiaaDoorTail
import Derived.LoopTactic
namespace Go.Proofs.YtpiacndnjehbiaaDoor
open Go.RowKit Go.Shelf
structure V2 where
  x : Int
  y : Int
/-- A body: where its track lies, and what is in it. -/
structure BodyR where
  mu : Int
  rad : Int
  tp : Option Addr
  tc : Nat
  track : List V2
structure StR where
  id : Int
  off : V2
structure CatR where
  ver : Int
  lo : Int
  hi : Int
/-- A sky: where its lists lie, and what is in them. -/
structure SkyR where
  bp : Option Addr
  bc : Nat
  bodies : List BodyR
  home : Int
  sp : Option Addr
  sc : Nat
  sts : List StR
  cp : Option Addr
  cc : Nat
  cats : List CatR
/-- Rows of two, of three cells. -/
def VecsAt (W : World) (p : Option Addr) (l : List V2) : Prop := ∀ j (h : j < l.length), ∃ B o, p = some ⟨B, o, none⟩ ∧ B < W.heap.size ∧ W.cell? ⟨B, o + j * 2, none⟩ = some (.int .i64 l[j].x) ∧ W.cell? ⟨B, o + j * 2 + 1, none⟩ = some (.int .i64 l[j].y)
def BodiesAt (W : World) (p : Option Addr) (l : List BodyR) : Prop := ∀ j (h : j < l.length), VecsAt W l[j].tp l[j].track ∧ ∃ B o, p = some ⟨B, o, none⟩ ∧ B < W.heap.size ∧ W.cell? ⟨B, o + j * 3, none⟩ = some (.int .i64 l[j].mu) ∧ W.cell? ⟨B, o + j * 3 + 1, none⟩ = some (.int .i64 l[j].rad) ∧ W.cell? ⟨B, o + j * 3 + 2, none⟩ = some (.slice l[j].tp l[j].track.length l[j].tc)
def StsAt (W : World) (p : Option Addr) (l : List StR) : Prop := ∀ j (h : j < l.length), ∃ B o, p = some ⟨B, o, none⟩ ∧ B < W.heap.size ∧ W.cell? ⟨B, o + j * 3, none⟩ = some (.int .i64 l[j].id) ∧ W.cell? ⟨B, o + j * 3 + 1, none⟩ = some (.int .i64 l[j].off.x) ∧ W.cell? ⟨B, o + j * 3 + 2, none⟩ = some (.int .i64 l[j].off.y)
def CatsAt (W : World) (p : Option Addr) (l : List CatR) : Prop := ∀ j (h : j < l.length), ∃ B o, p = some ⟨B, o, none⟩ ∧ B < W.heap.size ∧ W.cell? ⟨B, o + j * 3, none⟩ = some (.int .i64 l[j].ver) ∧ W.cell? ⟨B, o + j * 3 + 1, none⟩ = some (.int .i64 l[j].lo) ∧ W.cell? ⟨B, o + j * 3 + 2, none⟩ = some (.int .i64 l[j].hi)
structure SkyR.At (s : SkyR) (W : World) : Prop where
  bs : BodiesAt W s.bp s.bodies
  ss : StsAt W s.sp s.sts
  cs : CatsAt W s.cp s.cats
def wval (p : Option Addr) (n c : Nat) (h : Int) : Value := .agg #[.slice p n c, .int .i64 h]
/-- A world in which the cells below are the same. -/
theorem VecsAt.ext {W : World} {p : Option Addr} {l : List V2} (h : VecsAt W p l) (x : Ext W) : VecsAt x.now p l := fun j hj => by
  obtain ⟨B, o, rfl, hB, h1, h2⟩ := h j hj
  exact ⟨B, o, rfl, x.lt hB, (x.cell hB).trans h1, (x.cell hB).trans h2⟩
theorem BodiesAt.ext {W : World} {p : Option Addr} {l : List BodyR} (h : BodiesAt W p l) (x : Ext W) : BodiesAt x.now p l := fun j hj => by
  obtain ⟨ht, B, o, rfl, hB, h1, h2, h3⟩ := h j hj
  exact ⟨ht.ext x, B, o, rfl, x.lt hB, (x.cell hB).trans h1, (x.cell hB).trans h2, (x.cell hB).trans h3⟩
theorem StsAt.ext {W : World} {p : Option Addr} {l : List StR} (h : StsAt W p l) (x : Ext W) : StsAt x.now p l := fun j hj => by
  obtain ⟨B, o, rfl, hB, h1, h2, h3⟩ := h j hj
  exact ⟨B, o, rfl, x.lt hB, (x.cell hB).trans h1, (x.cell hB).trans h2, (x.cell hB).trans h3⟩
theorem CatsAt.ext {W : World} {p : Option Addr} {l : List CatR} (h : CatsAt W p l) (x : Ext W) : CatsAt x.now p l := fun j hj => by
  obtain ⟨B, o, rfl, hB, h1, h2, h3⟩ := h j hj
  exact ⟨B, o, rfl, x.lt hB, (x.cell hB).trans h1, (x.cell hB).trans h2, (x.cell hB).trans h3⟩
theorem SkyR.At.ext {s : SkyR} {W : World} (h : s.At W) (x : Ext W) : s.At x.now := ⟨h.bs.ext x, h.ss.ext x, h.cs.ext x⟩
/-- As they stand in a world that extends. -/
def Ext.of {W W' : World} (h : Below W.heap.size W W') : Ext W := ⟨W', h⟩
theorem VecsAt.on {W W' : World} {p : Option Addr} {l : List V2} (h : VecsAt W p l) (b : Below W.heap.size W W') : VecsAt W' p l := h.ext ⟨W', b⟩
theorem BodiesAt.on {W W' : World} {p : Option Addr} {l : List BodyR} (h : BodiesAt W p l) (b : Below W.heap.size W W') : BodiesAt W' p l := h.ext ⟨W', b⟩
theorem StsAt.on {W W' : World} {p : Option Addr} {l : List StR} (h : StsAt W p l) (b : Below W.heap.size W W') : StsAt W' p l := h.ext ⟨W', b⟩
theorem CatsAt.on {W W' : World} {p : Option Addr} {l : List CatR} (h : CatsAt W p l) (b : Below W.heap.size W W') : CatsAt W' p l := h.ext ⟨W', b⟩
theorem SkyR.At.on {s : SkyR} {W W' : World} (h : s.At W) (b : Below W.heap.size W W') : s.At W' := h.ext ⟨W', b⟩
/-- What package sky says. -/
def winB (n m : Int) : Bool := decide (-m ≤ n ∧ n ≤ m)
def vwinB (v : V2) (m : Int) : Bool := winB v.x m && winB v.y m
def tickB (t : Int) : Bool := decide (0 ≤ t ∧ t ≤ 1073741824)
def cntE (n lo hi : Int) : Int := if n < lo then 6 else if hi < n then 8 else 0
def placesE : List V2 → Int
  | [] => 0
  | v :: l => if vwinB v 33554432 then placesE l else 2
def bodyE (b : BodyR) : Int := if b.mu < 0 ∨ 1125899906842624 < b.mu ∨ b.rad < 0 ∨ 1048576 < b.rad then 2 else if cntE b.track.length 1 4096 = 0 then placesE b.track else cntE b.track.length 1 4096
def bodiesE : List BodyR → Int
  | [] => 0
  | b :: l => if bodyE b = 0 then bodiesE l else bodyE b
def worldE (l : List BodyR) (h : Int) : Int := if cntE l.length 1 8 = 0 then (if bodiesE l = 0 then (if 0 ≤ h ∧ h < l.length then 0 else 7) else bodiesE l) else cntE l.length 1 8
def stsE (last : Int) : List StR → Int
  | [] => 0
  | o :: l => if o.id ≤ last then 11 else if vwinB o.off 1048576 then stsE o.id l else 2
def stationsE (l : List StR) : Int := if 16 < l.length then 8 else stsE 0 l
def ctsE (last : Int) : List CatR → Int
  | [] => 0
  | c :: l => if c.ver ≤ last then 11 else if winB c.lo 500000 && winB c.hi 500000 && decide (c.lo ≤ c.hi) then ctsE c.ver l else 2
def catalogsE (l : List CatR) : Int := if 8 < l.length then 8 else ctsE 0 l
def skyE (s : SkyR) : Int := if worldE s.bodies s.home = 0 then (if stationsE s.sts = 0 then catalogsE s.cats else stationsE s.sts) else worldE s.bodies s.home
/-- The place of a track at a tick. -/
def trackAt (l : List V2) (t : Int) : V2 := l.getD (t % l.length).toNat ⟨0, 0⟩
def bodyAt (l : List BodyR) (b : Int) : List V2 := match l[b.toNat]? with
  | some x => x.track
  | none => []
theorem winB_true {n m : Int} : winB n m = true ↔ -m ≤ n ∧ n ≤ m := by unfold winB; simp
end Go.Proofs.YtpiacndnjehbiaaDoor

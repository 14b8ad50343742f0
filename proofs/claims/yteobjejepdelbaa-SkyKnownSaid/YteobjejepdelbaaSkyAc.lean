/- Contracts of package sky's functions at the chapter's examples. Condition: the examples' sky in memory. -/
import Derived.Test.YteobjejepdelbaaSkyU
import Derived.Test.YteobjejepdelbaaSkyAb
namespace Go.Proofs.Yteobjejepdelbaa
open Go.RowKit Go.Shelf
theorem SkyR.At.alloc {s : SkyR} {W : World} (h : s.At W) (o : Obj) : s.At (W.alloc o) := h.on ((Below.refl _ W).alloc (Nat.le_refl _) o)
theorem calls_named {P : Program} {f : FuncId} {args : Array Value} {w : World} {Q : Ending → World → Prop} (h : ∀ W0, w = W0 → Calls P f args W0 Q) : Calls P f args w Q := h w rfl
theorem ks0 (bp t1 t2 sp cp : Option Addr) (w : World) (h : (showS bp t1 t2 sp cp).At w) : Calls Try.prog 18 #[.agg #[.slice bp 2 2, .int .i64 1, .slice sp 1 1, .slice cp 2 2], .agg #[.int .i64 1, .int .i64 7, .int .i64 1, .int .i64 0, .int .i64 0, .int .i64 1, .int .i64 100000, .int .i64 0, .int .i64 0], .agg #[.int .i64 1000, .int .i64 110]] w (Gives (.bool true) w) := by
  have e : agreesV (showS bp t1 t2 sp cp) ⟨1, 7, 1, 0, ⟨0, 1⟩, 100000, 0, 0⟩ ⟨1000, 110⟩ = true := by kernel_rfl
  rw [← e]; exact Agrees_any _ _ _ w h
theorem ks1 (bp t1 t2 sp cp : Option Addr) (w : World) (h : (showS bp t1 t2 sp cp).At w) : Calls Try.prog 18 #[.agg #[.slice bp 2 2, .int .i64 1, .slice sp 1 1, .slice cp 2 2], .agg #[.int .i64 1, .int .i64 7, .int .i64 1, .int .i64 0, .int .i64 0, .int .i64 1, .int .i64 100000, .int .i64 0, .int .i64 0], .agg #[.int .i64 1010, .int .i64 110]] w (Gives (.bool true) w) := by
  have e : agreesV (showS bp t1 t2 sp cp) ⟨1, 7, 1, 0, ⟨0, 1⟩, 100000, 0, 0⟩ ⟨1010, 110⟩ = true := by kernel_rfl
  rw [← e]; exact Agrees_any _ _ _ w h
theorem ks2 (bp t1 t2 sp cp : Option Addr) (w : World) (h : (showS bp t1 t2 sp cp).At w) : Calls Try.prog 18 #[.agg #[.slice bp 2 2, .int .i64 1, .slice sp 1 1, .slice cp 2 2], .agg #[.int .i64 1, .int .i64 7, .int .i64 1, .int .i64 0, .int .i64 0, .int .i64 1, .int .i64 100000, .int .i64 0, .int .i64 0], .agg #[.int .i64 990, .int .i64 110]] w (Gives (.bool true) w) := by
  have e : agreesV (showS bp t1 t2 sp cp) ⟨1, 7, 1, 0, ⟨0, 1⟩, 100000, 0, 0⟩ ⟨990, 110⟩ = true := by kernel_rfl
  rw [← e]; exact Agrees_any _ _ _ w h
theorem ks3 (bp t1 t2 sp cp : Option Addr) (w : World) (h : (showS bp t1 t2 sp cp).At w) : Calls Try.prog 18 #[.agg #[.slice bp 2 2, .int .i64 1, .slice sp 1 1, .slice cp 2 2], .agg #[.int .i64 1, .int .i64 7, .int .i64 1, .int .i64 0, .int .i64 0, .int .i64 1, .int .i64 100000, .int .i64 0, .int .i64 0], .agg #[.int .i64 1011, .int .i64 110]] w (Gives (.bool false) w) := by
  have e : agreesV (showS bp t1 t2 sp cp) ⟨1, 7, 1, 0, ⟨0, 1⟩, 100000, 0, 0⟩ ⟨1011, 110⟩ = false := by kernel_rfl
  rw [← e]; exact Agrees_any _ _ _ w h
theorem ks4 (bp t1 t2 sp cp : Option Addr) (w : World) (h : (showS bp t1 t2 sp cp).At w) : Calls Try.prog 18 #[.agg #[.slice bp 2 2, .int .i64 1, .slice sp 1 1, .slice cp 2 2], .agg #[.int .i64 1, .int .i64 7, .int .i64 2, .int .i64 0, .int .i64 0, .int .i64 1, .int .i64 100000, .int .i64 0, .int .i64 0], .agg #[.int .i64 1000, .int .i64 110]] w (Gives (.bool true) w) := by
  have e : agreesV (showS bp t1 t2 sp cp) ⟨1, 7, 2, 0, ⟨0, 1⟩, 100000, 0, 0⟩ ⟨1000, 110⟩ = true := by kernel_rfl
  rw [← e]; exact Agrees_any _ _ _ w h
theorem ks5 (bp t1 t2 sp cp : Option Addr) (w : World) (h : (showS bp t1 t2 sp cp).At w) : Calls Try.prog 18 #[.agg #[.slice bp 2 2, .int .i64 1, .slice sp 1 1, .slice cp 2 2], .agg #[.int .i64 1, .int .i64 7, .int .i64 2, .int .i64 0, .int .i64 0, .int .i64 1, .int .i64 100000, .int .i64 0, .int .i64 0], .agg #[.int .i64 990, .int .i64 110]] w (Gives (.bool true) w) := by
  have e : agreesV (showS bp t1 t2 sp cp) ⟨1, 7, 2, 0, ⟨0, 1⟩, 100000, 0, 0⟩ ⟨990, 110⟩ = true := by kernel_rfl
  rw [← e]; exact Agrees_any _ _ _ w h
theorem ks6 (bp t1 t2 sp cp : Option Addr) (w : World) (h : (showS bp t1 t2 sp cp).At w) : Calls Try.prog 18 #[.agg #[.slice bp 2 2, .int .i64 1, .slice sp 1 1, .slice cp 2 2], .agg #[.int .i64 1, .int .i64 7, .int .i64 2, .int .i64 0, .int .i64 0, .int .i64 1, .int .i64 100000, .int .i64 0, .int .i64 0], .agg #[.int .i64 970, .int .i64 110]] w (Gives (.bool true) w) := by
  have e : agreesV (showS bp t1 t2 sp cp) ⟨1, 7, 2, 0, ⟨0, 1⟩, 100000, 0, 0⟩ ⟨970, 110⟩ = true := by kernel_rfl
  rw [← e]; exact Agrees_any _ _ _ w h
theorem ks7 (bp t1 t2 sp cp : Option Addr) (w : World) (h : (showS bp t1 t2 sp cp).At w) : Calls Try.prog 18 #[.agg #[.slice bp 2 2, .int .i64 1, .slice sp 1 1, .slice cp 2 2], .agg #[.int .i64 1, .int .i64 7, .int .i64 2, .int .i64 0, .int .i64 0, .int .i64 1, .int .i64 100000, .int .i64 0, .int .i64 0], .agg #[.int .i64 969, .int .i64 110]] w (Gives (.bool false) w) := by
  have e : agreesV (showS bp t1 t2 sp cp) ⟨1, 7, 2, 0, ⟨0, 1⟩, 100000, 0, 0⟩ ⟨969, 110⟩ = false := by kernel_rfl
  rw [← e]; exact Agrees_any _ _ _ w h
theorem ks8 (bp t1 t2 sp cp : Option Addr) (w : World) (h : (showS bp t1 t2 sp cp).At w) : Calls Try.prog 18 #[.agg #[.slice bp 2 2, .int .i64 1, .slice sp 1 1, .slice cp 2 2], .agg #[.int .i64 1, .int .i64 7, .int .i64 1, .int .i64 0, .int .i64 0, .int .i64 1, .int .i64 100000, .int .i64 0, .int .i64 0], .agg #[.int .i64 1000, .int .i64 (-90)]] w (Gives (.bool false) w) := by
  have e : agreesV (showS bp t1 t2 sp cp) ⟨1, 7, 1, 0, ⟨0, 1⟩, 100000, 0, 0⟩ ⟨1000, (-90)⟩ = false := by kernel_rfl
  rw [← e]; exact Agrees_any _ _ _ w h
theorem ks9 (bp t1 t2 sp cp : Option Addr) (w : World) (h : (showS bp t1 t2 sp cp).At w) : Calls Try.prog 20 #[.agg #[.slice bp 2 2, .int .i64 1, .slice sp 1 1, .slice cp 2 2], .agg #[.int .i64 1, .int .i64 7, .int .i64 1, .int .i64 0, .int .i64 0, .int .i64 1, .int .i64 100000, .int .i64 0, .int .i64 0], .agg #[.int .i64 1020, .int .i64 1030, .int .i64 20, .int .i64 110]] w (Gives (.bool true) w) := by
  have e : excludesV (showS bp t1 t2 sp cp) ⟨1, 7, 1, 0, ⟨0, 1⟩, 100000, 0, 0⟩ 1020 1030 20 110 = true := by kernel_rfl
  rw [← e]; exact Excludes_any _ _ _ _ _ _ w h
theorem ks10 (bp t1 t2 sp cp : Option Addr) (w : World) (h : (showS bp t1 t2 sp cp).At w) : Calls Try.prog 20 #[.agg #[.slice bp 2 2, .int .i64 1, .slice sp 1 1, .slice cp 2 2], .agg #[.int .i64 1, .int .i64 7, .int .i64 1, .int .i64 0, .int .i64 0, .int .i64 1, .int .i64 100000, .int .i64 0, .int .i64 0], .agg #[.int .i64 1005, .int .i64 1030, .int .i64 20, .int .i64 110]] w (Gives (.bool false) w) := by
  have e : excludesV (showS bp t1 t2 sp cp) ⟨1, 7, 1, 0, ⟨0, 1⟩, 100000, 0, 0⟩ 1005 1030 20 110 = false := by kernel_rfl
  rw [← e]; exact Excludes_any _ _ _ _ _ _ w h
theorem ks11 (bp t1 t2 sp cp : Option Addr) (w : World) (h : (showS bp t1 t2 sp cp).At w) : Calls Try.prog 18 #[.agg #[.slice bp 2 2, .int .i64 1, .slice sp 1 1, .slice cp 2 2], .agg #[.int .i64 2, .int .i64 7, .int .i64 0, .int .i64 0, .int .i64 0, .int .i64 0, .int .i64 0, .int .i64 90, .int .i64 100], .agg #[.int .i64 1000, .int .i64 110]] w (Gives (.bool true) w) := by
  have e : agreesV (showS bp t1 t2 sp cp) ⟨2, 7, 0, 0, ⟨0, 0⟩, 0, 90, 100⟩ ⟨1000, 110⟩ = true := by kernel_rfl
  rw [← e]; exact Agrees_any _ _ _ w h
theorem ks12 (bp t1 t2 sp cp : Option Addr) (w : World) (h : (showS bp t1 t2 sp cp).At w) : Calls Try.prog 18 #[.agg #[.slice bp 2 2, .int .i64 1, .slice sp 1 1, .slice cp 2 2], .agg #[.int .i64 2, .int .i64 7, .int .i64 0, .int .i64 0, .int .i64 0, .int .i64 0, .int .i64 0, .int .i64 90, .int .i64 100], .agg #[.int .i64 1000, .int .i64 99]] w (Gives (.bool false) w) := by
  have e : agreesV (showS bp t1 t2 sp cp) ⟨2, 7, 0, 0, ⟨0, 0⟩, 0, 90, 100⟩ ⟨1000, 99⟩ = false := by kernel_rfl
  rw [← e]; exact Agrees_any _ _ _ w h
theorem ks13 (bp t1 t2 sp cp : Option Addr) (w : World) (h : (showS bp t1 t2 sp cp).At w) : Calls Try.prog 20 #[.agg #[.slice bp 2 2, .int .i64 1, .slice sp 1 1, .slice cp 2 2], .agg #[.int .i64 2, .int .i64 7, .int .i64 0, .int .i64 0, .int .i64 0, .int .i64 0, .int .i64 0, .int .i64 90, .int .i64 100], .agg #[.int .i64 990, .int .i64 1010, .int .i64 0, .int .i64 20]] w (Gives (.bool true) w) := by
  have e : excludesV (showS bp t1 t2 sp cp) ⟨2, 7, 0, 0, ⟨0, 0⟩, 0, 90, 100⟩ 990 1010 0 20 = true := by kernel_rfl
  rw [← e]; exact Excludes_any _ _ _ _ _ _ w h
theorem ks14 (bp t1 t2 sp cp : Option Addr) (w : World) (h : (showS bp t1 t2 sp cp).At w) : Calls Try.prog 18 #[.agg #[.slice bp 2 2, .int .i64 1, .slice sp 1 1, .slice cp 2 2], .agg #[.int .i64 3, .int .i64 7, .int .i64 1, .int .i64 0, .int .i64 0, .int .i64 1, .int .i64 100000, .int .i64 0, .int .i64 100], .agg #[.int .i64 1000, .int .i64 110]] w (Gives (.bool false) w) := by
  have e : agreesV (showS bp t1 t2 sp cp) ⟨3, 7, 1, 0, ⟨0, 1⟩, 100000, 0, 100⟩ ⟨1000, 110⟩ = false := by kernel_rfl
  rw [← e]; exact Agrees_any _ _ _ w h
theorem ks15 (bp t1 t2 sp cp : Option Addr) (w : World) (h : (showS bp t1 t2 sp cp).At w) : Calls Try.prog 18 #[.agg #[.slice bp 2 2, .int .i64 1, .slice sp 1 1, .slice cp 2 2], .agg #[.int .i64 3, .int .i64 7, .int .i64 1, .int .i64 0, .int .i64 0, .int .i64 1, .int .i64 100000, .int .i64 0, .int .i64 100], .agg #[.int .i64 1000, .int .i64 111]] w (Gives (.bool true) w) := by
  have e : agreesV (showS bp t1 t2 sp cp) ⟨3, 7, 1, 0, ⟨0, 1⟩, 100000, 0, 100⟩ ⟨1000, 111⟩ = true := by kernel_rfl
  rw [← e]; exact Agrees_any _ _ _ w h
theorem ks16 (bp t1 t2 sp cp : Option Addr) (w : World) (h : (showS bp t1 t2 sp cp).At w) : Calls Try.prog 18 #[.agg #[.slice bp 2 2, .int .i64 1, .slice sp 1 1, .slice cp 2 2], .agg #[.int .i64 3, .int .i64 7, .int .i64 1, .int .i64 0, .int .i64 0, .int .i64 1, .int .i64 100000, .int .i64 0, .int .i64 100], .agg #[.int .i64 1020, .int .i64 50]] w (Gives (.bool true) w) := by
  have e : agreesV (showS bp t1 t2 sp cp) ⟨3, 7, 1, 0, ⟨0, 1⟩, 100000, 0, 100⟩ ⟨1020, 50⟩ = true := by kernel_rfl
  rw [← e]; exact Agrees_any _ _ _ w h
theorem ks17 (bp t1 t2 sp cp : Option Addr) (w : World) (h : (showS bp t1 t2 sp cp).At w) : Calls Try.prog 20 #[.agg #[.slice bp 2 2, .int .i64 1, .slice sp 1 1, .slice cp 2 2], .agg #[.int .i64 3, .int .i64 7, .int .i64 1, .int .i64 0, .int .i64 0, .int .i64 1, .int .i64 100000, .int .i64 0, .int .i64 100], .agg #[.int .i64 999, .int .i64 1001, .int .i64 50, .int .i64 100]] w (Gives (.bool true) w) := by
  have e : excludesV (showS bp t1 t2 sp cp) ⟨3, 7, 1, 0, ⟨0, 1⟩, 100000, 0, 100⟩ 999 1001 50 100 = true := by kernel_rfl
  rw [← e]; exact Excludes_any _ _ _ _ _ _ w h
theorem ksAt (bp t1 t2 sp cp : Option Addr) (w : World) (h : (showS bp t1 t2 sp cp).At w) : Calls Try.prog 14 #[.agg #[.slice bp 2 2, .int .i64 1], .int .i64 1, .int .i64 3] w (Gives (.agg #[.int .i64 0, .int .i64 1000]) w) := by
  have e : atV (showS bp t1 t2 sp cp).bodies 1 1 3 = ⟨0, 1000⟩ := by kernel_rfl
  have := At_any bp 2 (showS bp t1 t2 sp cp).bodies 1 1 3 w h.bs
  rw [e] at this
  exact this
theorem ksLa (bp t1 t2 sp cp : Option Addr) (w : World) (h : (showS bp t1 t2 sp cp).At w) (pa pb pg : Option Addr) (ca cb cg : Nat) (ha : SightsAt w pa [⟨1, 7, 1, 0, ⟨0, 1⟩, 100000, 0, 0⟩]) (hb : SightsAt w pb [⟨1, 7, 1, 1, ⟨1, 0⟩, 100000, 0, 0⟩]) (hg : StatesAt w pg [⟨1000, 110, -500, 900⟩]) : Calls Try.prog 22 #[.agg #[.slice bp 2 2, .int .i64 1, .slice sp 1 1, .slice cp 2 2], .slice pa 1 ca, .slice pb 1 cb, .slice pg 1 cg, .int .i64 0] w (LinkPost w ⟨0, [], 0⟩) := by
  have e : linkR (showS bp t1 t2 sp cp) [⟨1, 7, 1, 0, ⟨0, 1⟩, 100000, 0, 0⟩] [⟨1, 7, 1, 1, ⟨1, 0⟩, 100000, 0, 0⟩] [⟨1000, 110, -500, 900⟩] 0 = ⟨0, [], 0⟩ := by kernel_rfl
  rw [← e]; exact Link_any _ pa pb pg ca cb cg _ _ _ 0 w h ha hb hg
theorem ksLb (bp t1 t2 sp cp : Option Addr) (w : World) (h : (showS bp t1 t2 sp cp).At w) (pa pb pg : Option Addr) (ca cb cg : Nat) (ha : SightsAt w pa [⟨1, 7, 1, 0, ⟨0, 1⟩, 100000, 0, 0⟩]) (hb : SightsAt w pb [⟨1, 7, 1, 1, ⟨1, 0⟩, 100000, 0, 0⟩]) (hg : StatesAt w pg [⟨1000, 110, 0, 0⟩]) : Calls Try.prog 22 #[.agg #[.slice bp 2 2, .int .i64 1, .slice sp 1 1, .slice cp 2 2], .slice pa 1 ca, .slice pb 1 cb, .slice pg 1 cg, .int .i64 0] w (LinkPost w ⟨-1, [1], 0⟩) := by
  have e : linkR (showS bp t1 t2 sp cp) [⟨1, 7, 1, 0, ⟨0, 1⟩, 100000, 0, 0⟩] [⟨1, 7, 1, 1, ⟨1, 0⟩, 100000, 0, 0⟩] [⟨1000, 110, 0, 0⟩] 0 = ⟨-1, [1], 0⟩ := by kernel_rfl
  rw [← e]; exact Link_any _ pa pb pg ca cb cg _ _ _ 0 w h ha hb hg
theorem ksAngle (c : Int) (w : World) : Calls Try.prog 19 #[.int .i64 c] w (Gives (.agg #[.int .i64 1, .int .i64 7, .int .i64 c, .int .i64 0, .int .i64 0, .int .i64 1, .int .i64 100000, .int .i64 0, .int .i64 0]) w) := angle_any c w
theorem ksShown (w : World) : Calls Try.prog 17 #[] w fun e w' => ∃ (bp t1 t2 sp cp : Option Addr), e = .returned (.agg #[.slice bp 2 2, .int .i64 1, .slice sp 1 1, .slice cp 2 2]) ∧ Below w.heap.size w w' ∧ (showS bp t1 t2 sp cp).At w' := shown_any w
end Go.Proofs.Yteobjejepdelbaa

/-
  What the statements of layer 8 ask of the variables that their rows list: the table of powers of ten, strconv.ErrSyntax.
-/
import Derived.Test.YthokpbpnecdgpaaGreatDoorLaw08A
import Derived.LaidLaws
import Derived.Stop.LaidErr
namespace Go.Pantry
open Go.RowKit
theorem sentinel_iface {P : Program} {n nm : String} {d : DataW Unit} {r : List (String × DataW Unit)} {W : World} {g : Nat} {ti : TypeId} {ms : Array (String × TypeId)}
    (h : laidMet P ((n, .iface nm d) :: r) W) (hg : P.globalNamed n = some g) (ht : (P.globals[g]?).map (·.type) = some ti) (hi : P.underlying ti = some (.interface ms)) :
    ∃ u v, W.var? P n = some #[.iface u v] := by
  obtain ⟨ps, ⟨g0, t0, cs0, f0, p0, q0, hg0, ht0, hv0, hd0, _, e0⟩, _, hrows⟩ := h
  obtain rfl := Option.some.inj (hg.symm.trans hg0)
  obtain rfl := Option.some.inj (ht.symm.trans ht0)
  obtain ⟨l0⟩ := cs0
  obtain ⟨f1, u, v, rfl, _, _⟩ := iface_of_trod hi hd0
  exact ⟨u, v, hv0⟩
end Go.Pantry
namespace Go.Proofs.YthokpbpnecdgpaaGreatDoor
open Go.RowKit Go.Pantry

def errData : DataW Unit := .iface "*errors.errorString" (.ptr (.agg [.lit (.string [105, 110, 118, 97, 108, 105, 100, 32, 115, 121, 110, 116, 97, 120])]))
def LaidP (w : World) : Prop := Tab10 w ∧ ErrOk w
theorem laidP_of {W : World} {L : List (String × DataW Unit)} (h : laidMetH Tryz.prog L W)
    (hL : ((L.filter fun x => x.1 == "internal/strconv.uint64pow10"), (L.filter fun x => x.1 == "strconv.ErrSyntax")) = ([("internal/strconv.uint64pow10", Lib.tabData .u64 Lib.pow10Tab)], [("strconv.ErrSyntax", errData)])) : LaidP W := by
  obtain ⟨h1, h2⟩ := Prod.mk.inj hL
  refine ⟨tab10_of h h1, ?_⟩
  have h3 := laidMetH.filter (fun x => x.1 == "strconv.ErrSyntax") h
  rw [h2] at h3
  rw [MakeChecks.laidMetH_plain _ _ _ (by kernel_rfl)] at h3
  obtain ⟨u, v, hv⟩ := sentinel_iface (g := 2) (ti := 63) h3 (by kernel_rfl) (by kernel_rfl) Tryz.underlying63
  exact ⟨.iface u v, by simpa using World.var?_cell (P := Tryz.prog) (by kernel_rfl) hv 0, .inr ⟨u, v, rfl⟩⟩
end Go.Proofs.YthokpbpnecdgpaaGreatDoor

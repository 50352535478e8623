/-
  The statements of layer 7: same.
-/
import Derived.Test.YtongceljdgmbdaaGreatDoorHeadX
import Derived.Test.YtongceljdgmbdaaGreatDoorRefFieldB
import Derived.Test.YtongceljdgmbdaaGreatDoorMadeQ
namespace Go.Proofs.YtongceljdgmbdaaGreatDoor
open Go.RowKit Go.Pantry

set_option maxHeartbeats 4000000 in
theorem same_eq (m t : List UInt8) (st z : Int) (L : List Fld) (ao1 ao2 : Option Addr) (c1 c2 : Nat) (vb vc : Value) (l : List UInt8) (w : World) (h1 : Reads2 w (.slice ao1 L.length c1) L) (h2 : Reads2 w (.slice ao2 L.length c2) L) (hn : L.length < 1000000) (hb1 : Reads w vb (l.map byteV)) (hb2 : Reads w vc (l.map byteV)) :
    Calls Tryz.prog 16 #[.agg #[strV m, strV t, .int .i64 st, .int .i64 z, .slice ao1 L.length c1], vb, .agg #[strV m, strV t, .int .i64 st, .int .i64 z, .slice ao2 L.length c2], vc] w fun e w' => e = .returned (.bool true) ∧ Below w.heap.size w w' := by
  have cs := fun W h1 h2 => refSame_any (.slice ao1 L.length c1) (.slice ao2 L.length c2) L L W h1 h2 hn
  rw [show decide (L = L) = true by simp] at cs
  have CS := hid cs
  have H1 := hid h1
  have H2 := hid h2
  have HB1 := hid hb1
  have HB2 := hid hb2
  clear cs h1 h2 hb1 hb2
  have e1 : (m == m) = true := by simp
  have e2 : (t == t) = true := by simp
  have e3 : (st == st) = true := by simp
  have e4 : (z == z) = true := by simp
  obtain ⟨W, hW⟩ : ∃ W, W = (w.alloc (.cells #[strV m, strV t, .int .i64 st, .int .i64 z, .slice ao1 L.length c1] 47)).alloc (.cells #[strV m, strV t, .int .i64 st, .int .i64 z, .slice ao2 L.length c2] 47) := ⟨_, rfl⟩
  have hbW : Below w.heap.size w W := by rw [hW]; exact (below_alloc _ _).alloc (by simp) _
  go_enter Tryz.func16, Tryz.ntmps16
  go_wp2_with fail
  rw [← hW]
  clear hW
  refine (CS.out _ (H1.out.below hbW) (H2.out.below hbW)).mono ?_
  rintro e w2 ⟨rfl, hb⟩
  have hbb := chain2 hbW hbW.size hb
  have cv1 := reads_string (P := Tryz.prog) (HB1.out.below hbb) 27 9 5 Tryz.underlying27 Tryz.underlying5 Tryz.underlying9
  have cv2 := reads_string (P := Tryz.prog) (HB2.out.below hbb) 27 9 5 Tryz.underlying27 Tryz.underlying5 Tryz.underlying9
  have HB := hid hbb
  clear hb hbb hbW
  go_wp2_with fail
  go_ret
  exact ⟨rfl, HB.out⟩
end Go.Proofs.YtongceljdgmbdaaGreatDoor

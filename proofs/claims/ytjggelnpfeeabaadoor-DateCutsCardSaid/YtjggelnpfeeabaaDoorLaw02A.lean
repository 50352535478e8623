/-
  The walks of the statements of layer 2: the anchor; DateShows, DateBack, DateDays.
-/
import Derived.Test.YtjggelnpfeeabaaDoorDateRead2
import Derived.Test.YtjggelnpfeeabaaDoorDateRefShow
namespace Go.Proofs.YtjggelnpfeeabaaDoor
open Go.RowKit Go.Pantry

/-- the document's example -/
def exL : List UInt8 := [83, 117, 110, 44, 32, 48, 54, 32, 78, 111, 118, 32, 49, 57, 57, 52, 32, 48, 56, 58, 52, 57, 58, 51, 55, 32, 71, 77, 84]
theorem show_ex : showL 784111777 = exL := by
  have h : IsDate (784111777 / 86400) 1994 11 6 := ⟨by decide, by decide, by decide, by decide, by decide, by decide, by decide⟩
  unfold showL
  rw [dateI_of h]
  decide
theorem read_ex : readL exL = some 784111777 := by rw [← show_ex]; exact readL_show _ (by decide) (by decide)

theorem anchor_any (w : World) (hT : Tables w) :
    Calls Tryd.prog 10 #[] w fun e w' => e = .returned (.bool true) ∧ Below w.heap.size w w' := by
  have c1 := fun W (h : Tables W) => Show_yes 784111777 W (by decide) (by decide) h
  rw [show_ex] at c1
  have c2 := fun W (h : Tables W) => Read_some ⟨exL.toArray⟩ 784111777 W h (by rw [show (⟨exL.toArray⟩ : ByteArray).data.toList = exL from rfl]; exact read_ex)
  unfold exL at c1 c2
  have C1 := hid c1
  have C2 := hid c2
  clear c1 c2
  go_enter Tryd.func10, Tryd.ntmps10
  go_wp2_with fail
  refine (C1.out _ hT).mono ?_
  rintro e w1 ⟨rfl, hb1⟩
  have hT1 := hT.below hb1 hT.lt
  go_wp2_with fail
  refine (C2.out _ hT1).mono ?_
  rintro e w2 ⟨rfl, hb2⟩
  have hb := chainB hb1 hb1.size hb2
  clear hb1 hb2 hT1
  go_wp2_with fail
  go_ret
  exact ⟨rfl, hb⟩
end Go.Proofs.YtjggelnpfeeabaaDoor

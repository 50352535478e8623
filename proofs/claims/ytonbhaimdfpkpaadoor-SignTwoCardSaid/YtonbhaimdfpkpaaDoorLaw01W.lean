/-
  The walks of the statements of layer 1: SignWords.
-/
import Derived.Test.YtonbhaimdfpkpaaDoorLaw01B
namespace Go.Proofs.YtonbhaimdfpkpaaDoor
open Go.RowKit Go.Pantry

theorem chain {w a b : World} (h1 : Below w.heap.size w a) (h2 : Below a.heap.size a b) : Below w.heap.size w b := h1.trans (h2.mono h1.size)

theorem signWords_walk (s t : ByteArray) (w : World) (hs : s.size ≤ maxLen) (ht : t.size ≤ maxLen) :
    Calls Tryd.prog 3 #[.string s, .string t] w fun e w' => e = .returned (.bool true) ∧ Below w.heap.size w w' := by
  unfold maxLen at hs ht
  by_cases h1 : 2000 < (s.size : Int)
  · go_enter Tryd.func3, Tryd.ntmps3
    go_wp2_with (go_at_call 11; refine (anchor_any _).mono ?_; rintro e w1 ⟨rfl, HB⟩)
    go_ret
    exact ⟨rfl, HB⟩
  · by_cases h2 : 2000 < (t.size : Int)
    · go_enter Tryd.func3, Tryd.ntmps3
      go_wp2_with (go_at_call 11; refine (anchor_any _).mono ?_; rintro e w1 ⟨rfl, HB⟩)
      go_ret
      exact ⟨rfl, HB⟩
    · have hidem := lowerL_idem s.data.toList
      have hlen : (lowerL s.data.toList).length = s.size := by simp [lowerL]
      have HL := hid hlen
      clear hlen
      go_enter Tryd.func3, Tryd.ntmps3
      go_wp2_with (first
        | (go_at_call 11; refine (anchor_any _).mono ?_; rintro e w1 ⟨rfl, HB⟩)
        | (go_at_call 12; go_must (refine (Token_any _ _ (by unfold maxLen; omega)).mono ?_); rintro e w' ⟨rfl, rfl⟩)
        | (go_at_call 13; go_must (refine (refToken_any _ _ (by unfold maxLen; omega)).mono ?_); rintro e w' ⟨rfl, rfl⟩)
        | (go_at_call 14; go_must (refine (Lower_any _ _ (by unfold maxLen; omega)).mono ?_); rintro e w2 ⟨rfl, hb⟩; replace HB := chain HB hb; clear hb)
        | (go_at_call 15; go_must (refine (refLower_any _ _ (by omega)).mono ?_); rintro e w2 ⟨rfl, hb⟩; replace HB := chain HB hb; clear hb)
        | (go_at_call 16; go_must (refine (Trim_any _ _ (by unfold maxLen; omega)).mono ?_); rintro e w2 ⟨rfl, hb⟩; replace HB := chain HB hb; clear hb)
        | (go_at_call 17; go_must (refine (refTrim_any _ _ (by unfold maxLen; omega)).mono ?_); rintro e w2 ⟨rfl, rfl⟩)
        | (go_at_call 18; go_must (refine (Same_any _ _ _ (by unfold maxLen; omega) (by have := HL.out; unfold maxLen; first | omega | (simp [ByteArray.size]; omega))).mono ?_); rintro e w2 ⟨rfl, hb⟩; replace HB := chain HB hb; clear hb))
      go_ret
      exact ⟨rfl, HB⟩
end Go.Proofs.YtonbhaimdfpkpaaDoor

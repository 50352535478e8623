/-
  Directives that are flags: what ControlFlags asks. No program is imported.
-/
import Derived.Test.YtofkiihajhkmdaaDoorPureCtl3
namespace Go.Pantry
open Go.RowKit

def nTrans : List UInt8 := [110, 111, 45, 116, 114, 97, 110, 115, 102, 111, 114, 109]
/-- the names, in order -/
def flN : Nat → List UInt8
  | 0 => nNoStore
  | 1 => nNoCache
  | 2 => nPrivate
  | 3 => nPublic
  | 4 => nMust
  | 5 => nProxy
  | 6 => nOnly
  | _ => nTrans
/-- its first letter made great -/
def flG : Bool → List UInt8 → List UInt8
  | true, c :: r => (c - 32) :: r
  | _, l => l
/-- what each says -/
def flC (k : Nat) : Ctl := { noStore := k == 0, noCache := k == 1, priv := k == 2, pub := k == 3, must := k == 4 || k == 5, only := k == 6, maxAge := none, shared := none, minFresh := none, maxStale := none }
theorem fl_cases {k : Nat} (h : k ≤ 7) : k = 0 ∨ k = 1 ∨ k = 2 ∨ k = 3 ∨ k = 4 ∨ k = 5 ∨ k = 6 ∨ k = 7 := by omega
theorem flag_bare {k : Nat} (h : k ≤ 7) (gr : Bool) : ctlE (listL (flG gr (flN k))) false = flC k := by
  rcases fl_cases h with rfl | rfl | rfl | rfl | rfl | rfl | rfl | rfl <;> cases gr <;> decide +kernel
theorem flag_arg {k : Nat} (h : k ≤ 7) (gr : Bool) (A : List UInt8) (hA : (44 : UInt8) ∉ A) : ctlE (listL (flG gr (flN k) ++ 61 :: A)) false = flC k := by
  have key : ∀ (n : List UInt8) (c : UInt8), n.head? = some c → isBl c = false → (44 : UInt8) ∉ n → (61 : UInt8) ∉ n → lowerL n = flN k → (flN k == nMaxAge) = false → (flN k == nShared) = false → (flN k == nMinFresh) = false → (flN k == nMaxStale) = false →
      ctlE (listL (n ++ 61 :: A)) false = { noStore := flN k == nNoStore, noCache := flN k == nNoCache, priv := flN k == nPrivate, pub := flN k == nPublic, must := flN k == nMust || flN k == nProxy, only := flN k == nOnly, maxAge := none, shared := none, minFresh := none, maxStale := none } := by
    intro n c h1 h2 h3 h4 h5 m1 m2 m3 m4
    obtain ⟨e, he, hn⟩ := listL_named n A c h1 h2 h3 h4 hA
    rw [he, ctlE_flag e (flN k) (by rw [hn, h5]) m1 m2 m3 m4]
  rcases fl_cases h with rfl | rfl | rfl | rfl | rfl | rfl | rfl | rfl <;> cases gr <;>
    exact (key _ _ rfl (by decide) (by decide) (by decide) (by decide) (by decide) (by decide) (by decide) (by decide)).trans (by decide)
theorem fl_first {k : Nat} (h : k ≤ 7) : ∃ c r, flN k = c :: r ∧ 97 ≤ c.toNat ∧ flG true (flN k) = (c - 32) :: r ∧ (flN k).length ≤ 20 := by
  rcases fl_cases h with rfl | rfl | rfl | rfl | rfl | rfl | rfl | rfl <;> exact ⟨_, _, rfl, by decide, rfl, by decide⟩
/-- how much is set behind j of the seven -/
def setF (k j : Nat) : Ctl := if k < j then flC k else ctl0
theorem setF_other {k j : Nat} (h : k ≠ j) : setF k (j + 1) = setF k j := by
  unfold setF
  by_cases h1 : k < j
  · rw [if_pos h1, if_pos (by omega)]
  · rw [if_neg h1, if_neg (by omega)]
theorem setF_all {k : Nat} (h : k ≤ 7) : setF k 7 = flC k := by
  unfold setF
  by_cases h1 : k < 7
  · rw [if_pos h1]
  · obtain rfl : k = 7 := by omega
    rw [if_neg h1]; decide
theorem sub_byte (c : UInt8) (h : 97 ≤ c.toNat) : (((c - 32 : UInt8).toNat : Nat) : Int) = (c.toNat : Int) - 32 := by
  have := c.toNat_lt
  have h32 : (32 : UInt8) ≤ c := by rw [UInt8.le_iff_toNat_le]; show 32 ≤ _; omega
  rw [UInt8.toNat_sub_of_le _ _ h32]
  show ((c.toNat - 32 : Nat) : Int) = _
  omega
end Go.Pantry

/-
  The walk of the statement SignLower.
-/
import Derived.Test.YtonbhaimdfpkpaaDoorLaw01W
import Derived.Deep.QuietTactic
import Derived.BigQuiet
import Derived.Deep.RegionWith
namespace Go.Proofs.YtonbhaimdfpkpaaDoor
open Go.RowKit Go.Pantry

theorem token_lower (l : List UInt8) : tokenL (lowerL l) = tokenL l := by
  unfold tokenL lowerL
  have h : ∀ c, isTok (lowC c) = isTok c := fun c => by
    have h := byte_all (p := fun c => isTok (lowC c) == isTok c) (by decide +kernel) c
    simpa using h
  rw [List.all_map]
  have e : (isTok ∘ lowC) = isTok := funext h
  rw [e]
  cases l <;> rfl

theorem lower_at (s u : ByteArray) (k : Nat) (hu : u.data.toList = lowerL s.data.toList) (h1 : k < s.size) (h2 : k < u.size) : u[k] = lowC s[k] := by
  have e1 : u.data.toList[k]? = some u[k] := by rw [List.getElem?_eq_getElem (by rw [size_list]; exact h2), getElem_list u k h2]
  have e2 : s.data.toList[k]? = some s[k] := by rw [List.getElem?_eq_getElem (by rw [size_list]; exact h1), getElem_list s k h1]
  rw [hu, lowerL, List.getElem?_map, e2] at e1
  exact (Option.some.inj e1).symm
theorem up_bounds {c : UInt8} (h : isUp c = true) : 65 ≤ (c.toNat : Int) ∧ (c.toNat : Int) ≤ 90 := by
  have : 65 ≤ c.toNat ∧ c.toNat ≤ 90 := by simpa [isUp] using h
  omega
set_option maxRecDepth 100000 in
theorem signLower_walk (s : ByteArray) (w : World) (hs : s.size ≤ maxLen) :
    Calls Tryd.prog 9 #[.string s] w fun e w' => e = .returned (.bool true) ∧ Below w.heap.size w w' := by
  unfold maxLen at hs
  by_cases h1 : 1000 < (s.size : Int)
  · go_enter Tryd.func9, Tryd.ntmps9
    go_wp2_with (go_at_call 11; refine (anchor_any _).mono ?_; rintro e w1 ⟨rfl, HB⟩)
    go_ret
    exact ⟨rfl, HB⟩
  · obtain ⟨u, hu⟩ : ∃ u : ByteArray, (⟨(lowerL s.data.toList).toArray⟩ : ByteArray) = u := ⟨_, rfl⟩
    have hul : u.data.toList = lowerL s.data.toList := by rw [← hu]
    have hus : u.size = s.size := by rw [← size_list u, hul]; simp [lowerL]
    have cl := fun w => Lower_any s w (by unfold maxLen; omega)
    rw [hu] at cl
    have cm := fun w => Lower_any u w (by unfold maxLen; omega)
    have hmu : (⟨(lowerL u.data.toList).toArray⟩ : ByteArray) = u := by rw [hul, lowerL_idem, hu]
    rw [hmu] at cm
    have ct := fun w => Token_any u w (by unfold maxLen; omega)
    rw [hul, token_lower] at ct
    have CL := hid cl
    have CM := hid cm
    have CT := hid ct
    have HU := hid hul
    clear hu hul cl cm ct hmu
    have hszb : ((u.size : Int) != (s.size : Int)) = false := by simp [hus]
    have hus2 := hid hus
    have hle : u.size ≤ s.size := by omega
    have hge : s.size ≤ u.size := by omega
    clear hus
    go_enter Tryd.func9, Tryd.ntmps9
    go_wp2_with (first
        | (go_at_call 11; refine (anchor_any _).mono ?_; rintro e w1 ⟨rfl, HB⟩)
        | (go_at_call_of 14 s; go_must (refine (CL.out _).mono ?_); rintro e w2 ⟨rfl, hb⟩; replace HB := chain HB hb; clear hb)
        | (go_at_call_of 14 u; go_must (refine (CM.out _).mono ?_); rintro e w2 ⟨rfl, hb⟩; replace HB := chain HB hb; clear hb)
        | (go_at_call_of 12 u; go_must (refine (CT.out _).mono ?_); rintro e w3 ⟨rfl, rfl⟩)
        | (go_at_call_of 12 s; go_must (refine (Token_any _ _ (by unfold maxLen; omega)).mono ?_); rintro e w3 ⟨rfl, rfl⟩))
    clear CL CM CT
    go_loopw [32] (fun i wr => ∃ k : Nat, k ≤ s.size ∧ i = .int .i64 k ∧ Below w2.heap.size w2 wr) (fun i _ => s.size - (intOf i).toNat)
    case atStart => exact ⟨0, Nat.zero_le _, rfl, Below.refl _ _⟩
    case round =>
      obtain ⟨k, hk, rfl, hbr⟩ := hrel
      by_cases hlt : k < s.size
      · have hlu : k < u.size := by omega
        have hx : u[k] = lowC s[k] := lower_at s u k HU.out hlt hlu
        by_cases hup : isUp s[k] = true
        · have hb := up_bounds hup
          have he := low_any s[k]
          rw [if_pos ⟨by omega, by omega⟩, ← hx] at he
          have t1 : ((u[k].toNat : Int) != (s[k].toNat : Int)) = true := by rw [bne_iff_ne]; omega
          have t2 : decide ((s[k].toNat : Int) < 65) = false := by simp; omega
          have t3 : decide (90 < (s[k].toNat : Int)) = false := by simp; omega
          have w3 : IntKind.u8.wrap ((s[k].toNat : Int) + 32) = (s[k].toNat : Int) + 32 := by
            simp [IntKind.wrap, IntKind.bits, IntKind.signed]; omega
          have t4 : ((u[k].toNat : Int) != (s[k].toNat : Int) + 32) = false := by rw [he]; simp
          clear hb he hx hup
          go_wp2_with fail
          go_quiet (fail)
          go_wp2
          go_roundw
          case rel => exact ⟨k + 1, by omega, by go_num, below_drewN hbr _⟩
          case measure => simp [intOf]; omega
        · have t1 : ((u[k].toNat : Int) != (s[k].toNat : Int)) = false := by rw [hx]; simp [lowC, hup]
          clear hx hup
          go_wp2_with fail
          go_quiet (fail)
          go_wp2
          go_roundw
          case rel => exact ⟨k + 1, by omega, by go_num, below_drewN hbr _⟩
          case measure => simp [intOf]; omega
      · go_wp2
        go_ret
        exact ⟨rfl, chain HB hbr⟩
end Go.Proofs.YtonbhaimdfpkpaaDoor

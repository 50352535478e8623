/-
  Contract of the document's Find of a config: the first place.
-/
import Derived.Test.YtenijpcjemdhfaaGreatDoorP10d06
import Derived.Test.YtenijpcjemdhfaaGreatDoorPureR
namespace Go.Pantry
open Go.RowKit
/-- the first of that host, in a table and in its config -/
theorem first_rule {L : List RuleZ} {host : List UInt8} {x : RuleZ} {k : Nat} {y : SiteZ × Value} (hx : L.find? (fun x => x.1.host == host) = some x) (hy : (zT L)[k]? = some y) (hh : y.1.host = host) (hn : ((zT L).take k).find? (fun x => x.1.host == host) = none) : L[k]? = some x := by
  unfold zT at hy hn
  rw [List.getElem?_map] at hy
  obtain ⟨z, hz, rfl⟩ := Option.map_eq_some_iff.1 hy
  rw [← List.map_take, List.find?_map] at hn
  have hn2 : (L.take k).find? (fun x => x.1.host == host) = none := by
    cases q : (L.take k).find? (fun x => x.1.host == host) with
    | none => rfl
    | some w =>
      exfalso
      have : (L.take k).find? ((fun x : SiteZ × Value => x.1.host == host) ∘ fun x : RuleZ => (x.1, x.2.1)) = some w := q
      rw [this] at hn
      cases hn
  obtain ⟨hkl, hkx⟩ := List.getElem?_eq_some_iff.1 hz
  have : L.find? (fun x => x.1.host == host) = some z := by
    rw [← List.take_append_drop k L, List.find?_append, hn2, Option.none_or, List.drop_eq_getElem_cons hkl, hkx]
    simp at hh
    simp [hh]
  rw [this] at hx
  rw [hz, ← hx]
theorem first_none {L : List RuleZ} {host : List UInt8} {k : Nat} {y : SiteZ × Value} (hx : L.find? (fun x => x.1.host == host) = none) (hy : (zT L)[k]? = some y) (hh : y.1.host = host) : False := by
  unfold zT at hy
  rw [List.getElem?_map] at hy
  obtain ⟨z, hz, rfl⟩ := Option.map_eq_some_iff.1 hy
  have := List.find?_eq_none.1 hx z (List.mem_of_getElem? hz)
  simp at hh this
  exact this hh
theorem first_some {L : List RuleZ} {host : List UInt8} {x : RuleZ} (hx : L.find? (fun x => x.1.host == host) = some x) (hn : (zT L).find? (fun x => x.1.host == host) = none) : False := by
  have hm := List.mem_of_find?_eq_some hx
  have hh := List.find?_some hx
  have := List.find?_eq_none.1 hn (x.1, x.2.1) (by unfold zT; exact List.mem_map.2 ⟨x, hm, rfl⟩)
  exact this hh
end Go.Pantry
namespace Go.Proofs.YtenijpcjemdhfaaGreatDoor
open Go.RowKit Go.Pantry

def RefFirstPost (w : World) (L : List (SiteZ × Value)) (host : List UInt8) (e : Ending) (w' : World) : Prop :=
  ((∃ (k : Nat) (x : SiteZ × Value), e = .returned (.int .i64 (k : Int)) ∧ L[k]? = some x ∧ x.1.host = host ∧ (L.take k).find? (fun x => x.1.host == host) = none) ∨
    (e = .returned (.int .i64 (-1)) ∧ L.find? (fun x => x.1.host == host) = none)) ∧ Below w.heap.size w w'
set_option maxRecDepth 8000 in
theorem refFindC_first (v : Value) (L : List (SiteZ × Value)) (host : List UInt8) (w : World) (h : ReadsP w v L) (hl : L.length ≤ 1000000) :
    Calls Tryz.prog 29 #[.agg #[v], strV host] w (RefFirstPost w L host) := by
  obtain ⟨n, hn⟩ : ∃ n, L.length = n := ⟨_, rfl⟩
  obtain ⟨ao, c, e1, f1⟩ := h.form
  rw [hn] at e1
  subst e1
  have HR := hid h
  have HL := hid hn
  have hnl : n ≤ 1000000 := by omega
  have J0 : Hid (rowIs (w.alloc (.cells #[.slice ao n c] 33)) w.heap.size #[.slice ao n c] 33) := rowIs_new _ _ _
  have J1 := hid (below_alloc w (.cells #[.slice ao n c] 33))
  clear h hn hl f1
  go_enter Tryz.func29, Tryz.ntmps29
  go_wp2_with fail
  go_loopw [5] (fun z wr => ∃ (k : Nat), z = .int .i64 (k : Int) ∧ k ≤ n ∧ rowIs wr w.heap.size #[.slice ao n c] 33 ∧ Below w.heap.size w wr ∧ (L.take k).find? (fun x => x.1.host == host) = none) (fun z _ => n - (intOf z).toNat)
  case atStart => exact ⟨0, rfl, Nat.zero_le _, J0.out, J1.out, rfl⟩
  case round =>
    obtain ⟨k, rfl, hk, hra, hb, hf⟩ := hrel
    have HB := hid (And.intro hra (And.intro hb hf))
    have j1 := hra.cell 0
    by_cases hlt : k < n
    · obtain ⟨⟨s, hv⟩, hx⟩ : ∃ x, L[k]? = some x := by
        have := HL.out
        exact ⟨L[k]'(by omega), List.getElem?_eq_getElem (by omega)⟩
      obtain ⟨b1, o1, g1, i1⟩ := (HR.out.below hb).at_ hx
      subst g1
      have hkI : (k : Int) < (n : Int) := by omega
      have hk0 : (0 : Int) ≤ (k : Int) := by omega
      have hkw : IntKind.i64.wrap ((k : Int) + 1) = (k : Int) + 1 := IntWalk.i64_in _ (by omega)
      obtain ⟨p1, hp1⟩ : ∃ p, o1 + k * 7 = p := ⟨_, rfl⟩
      rw [hp1] at i1
      have y0 := i1 0 _ rfl
      rw [Nat.add_zero] at y0
      have HX := hid hx
      clear hb hx i1 hra hf
      by_cases hm : s.host = host
      · subst hm
        have z1 : (s.host == s.host) = true := by simp
        go_wp2_with fail
        go_ret
        exact ⟨.inl ⟨k, (s, hv), rfl, HX.out, rfl, HB.out.2.2⟩, HB.out.2.1⟩
      · have z1 : (s.host == host) = false := by simp [hm]
        go_wp2_with fail
        go_roundw
        case rel =>
          refine ⟨k + 1, by go_num, hlt, HB.out.1, HB.out.2.1, ?_⟩
          rw [List.take_add_one, HX.out]
          simp [HB.out.2.2, hm]
        case measure => simp [intOf]; omega
    · have hkn : n = k := by omega
      have hfn : L.find? (fun x => x.1.host == host) = none := by
        have := HB.out.2.2
        rwa [List.take_of_length_le (by have := HL.out; omega)] at this
      have HFN := hid hfn
      clear hra hb hf hfn
      go_wp2_with fail
      go_ret
      exact ⟨.inr ⟨rfl, HFN.out⟩, HB.out.2.1⟩
end Go.Proofs.YtenijpcjemdhfaaGreatDoor

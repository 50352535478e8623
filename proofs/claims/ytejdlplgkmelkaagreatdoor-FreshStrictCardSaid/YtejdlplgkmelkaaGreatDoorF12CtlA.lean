/-
  Contracts of what package control leans on: strings.Cut at an equals sign; and of its small functions: None, seconds, least, staleness.
-/
import Derived.Test.YtejdlplgkmelkaaGreatDoorF1207
import Derived.Test.YtejdlplgkmelkaaGreatDoorF1204
import Derived.Test.YtejdlplgkmelkaaGreatDoorPureAll1
import Derived.Lib.CutLaws
import Derived.Deep.QuietTactic
import Derived.BigQuiet
set_option linter.unusedVariables false
set_option linter.unusedSimpArgs false

namespace Go.Pantry
open Go.RowKit
theorem idx_none {e : List UInt8} (h : Lib.indexByte e 61 = -1) : (61 : UInt8) ∉ e := by
  intro hm
  obtain ⟨k, hk⟩ := List.mem_iff_getElem?.1 hm
  exact Lib.indexByte_none h k hk
theorem idx_some {e : List UInt8} {i : Nat} (h : Lib.indexByte e 61 = (i : Int)) : i < e.length ∧ e = e.take i ++ 61 :: e.drop (i + 1) ∧ (61 : UInt8) ∉ e.take i := by
  obtain ⟨h1, h2⟩ := Lib.indexByte_some h
  obtain ⟨hl, hg⟩ := List.getElem?_eq_some_iff.1 h1
  refine ⟨hl, ?_, ?_⟩
  · have h3 := List.drop_eq_getElem_cons hl
    rw [hg] at h3
    rw [← h3, List.take_append_drop]
  · intro hm
    obtain ⟨k, hk⟩ := List.mem_iff_getElem?.1 hm
    have hki : k < i := by
      have := (List.getElem?_eq_some_iff.1 hk).1
      rw [List.length_take] at this
      omega
    rw [List.getElem?_take_of_lt hki] at hk
    exact h2 k hki hk
theorem idx_cases (e : List UInt8) : Lib.indexByte e 61 = -1 ∨ ∃ i : Nat, Lib.indexByte e 61 = (i : Int) := by
  have := Lib.indexByte_ge e 61
  by_cases h : Lib.indexByte e 61 = -1
  · exact .inl h
  · exact .inr ⟨(Lib.indexByte e 61).toNat, by omega⟩
theorem extractL_take (e : List UInt8) (k : Nat) : (⟨e.toArray⟩ : ByteArray).extract 0 k = ⟨(e.take k).toArray⟩ := by rw [Lib.extract_eq]; simp
theorem extractL_drop (e : List UInt8) (k : Nat) : (⟨e.toArray⟩ : ByteArray).extract k e.length = ⟨(e.drop k).toArray⟩ := by
  rw [Lib.extract_eq]
  have : (e.drop k).take (e.length - k) = e.drop k := List.take_of_length_le (by rw [List.length_drop]; omega)
  simp only [this]
theorem secE_eq (arg : List UInt8) (other : Nat) : secE arg other = (numberL ((unquoteL arg).getD [])).getD other := by
  unfold secE
  cases unquoteL arg with
  | none => rfl
  | some s => rfl
end Go.Pantry
namespace Go.Proofs.YtejdlplgkmelkaaGreatDoor
open Go.RowKit Go.Pantry

theorem slCut_any (e : List UInt8) (w : World) (hs : e.length < 4294967296) :
    Calls Tryz.prog 91 #[strV e, .string ⟨#[61]⟩] w fun r w' => r = .returned (.tuple #[strV (nameE e), strV (argE e), .bool (hasE e)]) ∧ Below w.heap.size w w' := by
  obtain ⟨s, hse⟩ : ∃ s : ByteArray, s = ⟨e.toArray⟩ := ⟨_, rfl⟩
  have hsz : s.size = e.length := by rw [hse, szL]
  have hdt : s.data.toList = e := by rw [hse, dtL]
  have ci := fun W => Tryz.stringslite_Index_one s 61 W
  rw [hdt] at ci
  rw [show strV e = .string s by rw [hse]]
  have HSE := hid hse
  have HSZ := hid hsz
  have hs2 : s.size < 4294967296 := by omega
  rcases idx_cases e with hi | ⟨i, hi⟩
  · rw [hi] at ci
    obtain ⟨x1, x2, x3⟩ := nameE_none (idx_none hi)
    have X := hid (And.intro x1 (And.intro x2 x3))
    have CI := hid ci
    clear hdt hse hsz hs ci x1 x2 x3 hi
    go_enter Tryz.func91, Tryz.ntmps91
    go_wp2_with fail
    refine (CI.out _).mono ?_
    rintro r w1 ⟨rfl, rfl⟩
    go_wp2_with fail
    go_ret3
    refine ⟨?_, Below.refl _ _⟩
    obtain ⟨x1, x2, x3⟩ := X.out
    show Ending.returned (.tuple #[.string s, .string ⟨#[]⟩, .bool false]) = _
    rw [x1, x2, x3, HSE.out]
  · rw [hi] at ci
    obtain ⟨hl, h1, h2⟩ := idx_some hi
    obtain ⟨x1, x2, x3⟩ := nameE_at (a := e.take i) (b := e.drop (i + 1)) h2
    rw [← h1] at x1 x2 x3
    have X := hid (And.intro x1 (And.intro x2 x3))
    have CI := hid ci
    have hl2 : i < s.size := by omega
    have hw : IntKind.i64.wrap ((i : Int) + 1) = (i : Int) + 1 := IntWalk.i64_in _ (by omega)
    have hsz1 : ((⟨#[61]⟩ : ByteArray).size : Int) = 1 := rfl
    clear hdt hse hsz hs ci x1 x2 x3 hi h1 h2 hl
    go_enter Tryz.func91, Tryz.ntmps91
    go_wp2_with fail
    refine (CI.out _).mono ?_
    rintro r w1 ⟨rfl, rfl⟩
    go_wp2_with fail
    go_quiet (fail)
    go_wp2_with fail
    go_ret3
    obtain ⟨x1, x2, x3⟩ := X.out
    have ex1 : s.extract 0 i = ⟨(e.take i).toArray⟩ := by rw [HSE.out, extractL_take]
    have ex2 : s.extract (i + 1) s.size = ⟨(e.drop (i + 1)).toArray⟩ := by rw [HSZ.out, HSE.out, extractL_drop]
    refine ⟨?_, drewN_below2 _ _⟩
    show Ending.returned (.tuple #[.string (s.extract 0 i), .string (s.extract (i + 1) s.size), .bool true]) = _
    rw [x1, x2, x3, ex1, ex2]

theorem Cut_any (e : List UInt8) (w : World) (hs : e.length < 4294967296) :
    Calls Tryz.prog 72 #[strV e, .string ⟨#[61]⟩] w fun r w' => r = .returned (.tuple #[strV (nameE e), strV (argE e), .bool (hasE e)]) ∧ Below w.heap.size w w' := by
  go_enter Tryz.func72, Tryz.ntmps72
  go_wp2_with fail
  refine (slCut_any e _ hs).mono ?_
  rintro r w1 ⟨rfl, hb⟩
  go_wp2_with fail
  go_ret3
  exact ⟨rfl, hb⟩

theorem seconds_any (arg : List UInt8) (other : Nat) (z : Int) (w : World) (hz : z = (other : Int)) (hs : arg.length < 4294967296) :
    Calls Tryz.prog 74 #[strV arg, .int .i64 z] w fun r w' => r = .returned (.int .i64 ((secE arg other : Nat) : Int)) ∧ Below w.heap.size w w' := by
  subst hz
  have c1 := fun W => Unquote_any ⟨arg.toArray⟩ W (by rw [szL]; exact hs)
  rw [dtL] at c1
  rw [secE_eq]
  have htl : ((unquoteL arg).getD []).length ≤ arg.length := by
    cases h : unquoteL arg with
    | none => simp
    | some t => exact unquoteL_len h
  generalize (unquoteL arg).getD [] = t at c1 htl ⊢
  generalize (unquoteL arg).isSome = b at c1
  have c2 := fun W => Number_any ⟨t.toArray⟩ W (by rw [szL]; omega)
  rw [dtL] at c2
  have C1 := hid c1
  clear c1
  cases hn : numberL t with
  | none =>
    rw [hn] at c2
    have C2 := hid c2
    clear c2 hn
    go_enter Tryz.func74, Tryz.ntmps74
    go_wp2_with fail
    refine (C1.out _).mono ?_
    rintro e w1 ⟨rfl, hb⟩
    go_wp2_with fail
    refine (C2.out _).mono ?_
    rintro e w2 ⟨rfl, rfl⟩
    go_wp2_with fail
    go_ret
    exact ⟨rfl, hb⟩
  | some n =>
    rw [hn] at c2
    have C2 := hid c2
    clear c2 hn
    go_enter Tryz.func74, Tryz.ntmps74
    go_wp2_with fail
    refine (C1.out _).mono ?_
    rintro e w1 ⟨rfl, hb⟩
    go_wp2_with fail
    refine (C2.out _).mono ?_
    rintro e w2 ⟨rfl, rfl⟩
    go_wp2_with fail
    go_ret
    exact ⟨rfl, hb⟩

theorem least_any (o : Option Nat) (t : Nat) (w : World) :
    Calls Tryz.prog 73 #[.int .i64 (intO o), .int .i64 (t : Int)] w fun r w' => r = .returned (.int .i64 (intO (comb false o (some t)))) ∧ w = w' := by
  cases o with
  | none =>
    have hk : intO (comb false none (some t)) = (t : Int) := rfl
    have e1 : intO none = -1 := rfl
    rw [hk, e1]
    go_enter Tryz.func73, Tryz.ntmps73
    go_wp2_with fail
    go_ret
    exact ⟨rfl, rfl⟩
  | some y =>
    have hk : intO (comb false (some y) (some t)) = min (y : Int) (t : Int) := by
      show ((min y t : Nat) : Int) = _
      omega
    have e1 : intO (some y) = (y : Int) := rfl
    have h0 : ((y : Int) == -1) = false := by simp
    rw [e1, hk]
    clear hk
    go_enter Tryz.func73, Tryz.ntmps73
    go_wp2_with fail
    go_ret
    exact ⟨rfl, rfl⟩

theorem staleness_any (arg : List UInt8) (has : Bool) (w : World) (hs : arg.length < 4294967296) :
    Calls Tryz.prog 75 #[strV arg, .bool has] w fun r w' => r = .returned (.int .i64 (((if has then secE arg 0 else farN) : Nat) : Int)) ∧ Below w.heap.size w w' := by
  have c1 := fun W => seconds_any arg 0 0 W rfl hs
  have C1 := hid c1
  clear c1
  cases has
  · go_enter Tryz.func75, Tryz.ntmps75
    go_wp2_with fail
    go_ret
    exact ⟨rfl, Below.refl _ _⟩
  · go_enter Tryz.func75, Tryz.ntmps75
    go_wp2_with fail
    refine (C1.out _).mono ?_
    rintro e w1 ⟨rfl, hb⟩
    go_wp2_with fail
    go_ret
    exact ⟨rfl, hb⟩

theorem infoCtl : (Tryz.prog.info? 57).map (·.size) = some 10 := by kernel_rfl
theorem ctlNone_any (w : World) :
    Calls Tryz.prog 49 #[] w fun e w' => e = .returned (ctlV ctl0) ∧ Below w.heap.size w w' := by
  have h1 := ctl_one false false false false false false (-1) (-1) (-1) (-1)
  go_enter Tryz.func49, Tryz.ntmps49
  go_wp2_with (refine wpList_store_row rfl 57 _ _ rfl w.heap.size _ rfl rfl 57 zeroC (rowIs_new _ _ _) infoCtl rfl h1 ?_)
  refine bodyPost_ret (results_row Tryz.results49 _ _ w.heap.size _ rfl ((rowIs_new _ _ _).setRow _) Tryz.underlying57 rfl infoCtl) rfl ?_
  exact ⟨rfl, below_setRow (below_alloc _ _) (Nat.le_refl _) _⟩
end Go.Proofs.YtejdlplgkmelkaaGreatDoor

/-
  Contract of package date: Read.
-/
import Derived.Test.YtjggelnpfeeabaaDoorDateRead
namespace Go.Proofs.YtjggelnpfeeabaaDoor
open Go.RowKit Go.Pantry

theorem sup_of {l : List UInt8} {u : Int} (h0 : 0 ≤ u) (h1 : u ≤ 253402300799) (h : showL u = l) : supI l (moNum (sub l 8 11)) = u := by
  subst h
  obtain ⟨a, b⟩ := supI_show u h0 h1
  have hd := dateI_is (u / 86400) (by omega) (by omega)
  rw [b, moNum_of _ hd.m1 hd.m2, a]

theorem Read_some (s : ByteArray) (t : Int) (w : World) (hT : Tables w) (h : readL s.data.toList = some t) :
    Calls Tryd.prog 15 #[.string s] w fun e w' => e = .returned (.tuple #[.int .i64 t, .int .i64 0]) ∧ Below w.heap.size w w' := by
  obtain ⟨h0, h1, hsh⟩ := readL_some h
  have hs : s.size = 29 := by rw [← size_list, ← hsh, showL_len t h0 h1]
  have hsup := sup_of h0 h1 hsh
  have cS := fun W (hW : Tables W) => suppose_any s W hs hW
  rw [hsup] at cS
  have hz : decide ((s.size : Int) = 29) = true := decide_eq_true (by omega)
  have hz2 : ((s.size : Int) != 29) = false := by simp [hs]
  have heq : (showL t == s.toList) = true := by rw [Lib.toList_data, hsh]; simp
  have CS := hid cS
  have HS := hid hs
  clear cS hsup hsh hs h
  go_enter Tryd.func15, Tryd.ntmps15
  go_wp2_with fail
  refine (CS.out _ hT).mono ?_
  rintro e w1 ⟨rfl, hb1⟩
  have hT1 := hT.below hb1 hT.lt
  go_wp2_with fail
  refine (Show_yes t _ h0 h1 hT1).mono ?_
  rintro e w2 ⟨rfl, hb2⟩
  have hb := chainB hb1 hb1.size hb2
  clear hb1 hb2 hT1
  go_wp2_with fail
  go_ret2
  exact ⟨rfl, hb⟩

theorem Read_short (s : ByteArray) (w : World) (hs : (s.size : Int) ≠ 29) :
    Calls Tryd.prog 15 #[.string s] w fun e w' => e = .returned (.tuple #[.int .i64 0, .int .i64 14]) ∧ w = w' := by
  have hz2 : ((s.size : Int) == 29) = false := by simpa using hs
  go_enter Tryd.func15, Tryd.ntmps15
  go_wp2_with fail
  go_ret2
  exact ⟨rfl, rfl⟩
theorem Read_none (s : ByteArray) (w : World) (hT : Tables w) (h : readL s.data.toList = none) :
    Calls Tryd.prog 15 #[.string s] w fun e w' => e = .returned (.tuple #[.int .i64 0, .int .i64 14]) ∧ Below w.heap.size w w' := by
  by_cases hs : s.size = 29
  · have cS := fun W (hW : Tables W) => suppose_any s W hs hW
    generalize hsup : supI s.data.toList (moNum (sub s.data.toList 8 11)) = t at cS
    have hz2 : ((s.size : Int) == 29) = true := by simp [hs]
    have HH := hid h
    have CS := hid cS
    clear cS hsup hs h
    by_cases hv : 0 ≤ t ∧ t ≤ 253402300799
    · obtain ⟨h0, h1⟩ := hv
      have heq : (showL t == s.toList) = false := by
        rw [Lib.toList_data]
        by_cases e : showL t = s.data.toList
        · exfalso
          have := readL_show t h0 h1
          rw [e, HH.out] at this
          cases this
        · simpa using e
      go_enter Tryd.func15, Tryd.ntmps15
      go_wp2_with fail
      refine (CS.out _ hT).mono ?_
      rintro e w1 ⟨rfl, hb1⟩
      have hT1 := hT.below hb1 hT.lt
      go_wp2_with fail
      refine (Show_yes t _ h0 h1 hT1).mono ?_
      rintro e w2 ⟨rfl, hb2⟩
      have hb := chainB hb1 hb1.size hb2
      clear hb1 hb2 hT1
      go_wp2_with fail
      go_ret2
      exact ⟨rfl, hb⟩
    · have hv' : t < 0 ∨ 253402300799 < t := by omega
      have HV := hid hv'
      clear hv hv'
      go_enter Tryd.func15, Tryd.ntmps15
      go_wp2_with fail
      refine (CS.out _ hT).mono ?_
      rintro e w1 ⟨rfl, hb1⟩
      go_wp2_with fail
      refine (Show_no t _ HV.out).mono ?_
      rintro e w2 ⟨rfl, rfl⟩
      go_wp2_with fail
      go_ret2
      exact ⟨rfl, hb1⟩
  · exact (Read_short s w (by omega)).mono fun e w' ⟨he, hw⟩ => ⟨he, by subst hw; exact Below.refl _ _⟩
end Go.Proofs.YtjggelnpfeeabaaDoor

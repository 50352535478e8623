/-
  The walk of the statement FieldLeaves.
-/
import Derived.Test.YtcipfbjneeafaaaDoorLaw03B
import Derived.Test.YtcipfbjneeafaaaDoorRefFieldC
namespace Go.Proofs.YtcipfbjneeafaaaDoor
open Go.RowKit Go.Pantry

set_option maxHeartbeats 8000000 in
theorem fieldLeaves_main (v : Value) (L : List Fld) (vn : Value) (A : List (List UInt8)) (w : World) (hr : Reads2 w v L) (hn : Reads w vn (A.map strV)) (hsm : smallF L = true) (hA : A.length ≤ 20) :
    Calls Tryd.prog 4 #[v, vn] w fun e w' => e = .returned (.bool true) ∧ Below w.heap.size w w' := by
  obtain ⟨hk, hl70, hk2⟩ := small_ok hsm
  have cs := fun W h => small_any v L W h (by omega)
  rw [hsm] at cs
  have f1 := fun W h => Fields_any v L W h (by omega)
  obtain ⟨aon, capn, rfl⟩ := Reads.strs hn
  have CS := hid cs
  have F1 := hid f1
  have HR := hid hr
  have HN := hid hn
  have HK := hid hk
  have HK2 := hid hk2
  have hAI : (A.length : Int) ≤ 20 := by omega
  clear cs f1 hr hn hk hk2 hsm
  go_enter Tryd.func4, Tryd.ntmps4
  go_wp2_with fail
  refine (anchor_any _).mono ?_
  rintro e w1 ⟨rfl, hb⟩
  go_wp2_with fail
  refine (CS.out _ (HR.out.below hb)).mono ?_
  rintro e w2 ⟨rfl, hb2⟩
  replace hb := chain2 hb hb.size hb2
  clear hb2
  go_wp2_with fail
  refine (F1.out _ (HR.out.below hb)).mono ?_
  rintro e w3 ⟨vx, rfl, hox, hb2⟩
  replace hb := chain2 hb hb.size hb2
  have hrx := hox.reads2.2
  clear hb2 hox
  go_wp2_with fail
  go_loopw [5, 27] (fun x i wr => ∃ (k : Nat), k ≤ A.length ∧ i = .int .i64 k ∧ Reads2 wr x (outsF L (A.take k)) ∧ (∀ n ∈ A.take k, n.length ≤ 100) ∧ Below w.heap.size w wr) (fun _ i _ => A.length - (intOf i).toNat)
  case atStart => exact ⟨0, Nat.zero_le _, rfl, by rw [List.take_zero, outsF_nil]; exact hrx, by simp, hb⟩
  case round =>
    obtain ⟨k, hk, rfl, hx, hs, hbr⟩ := hrel
    have HX := hid hx
    have HSz := hid hs
    clear hx hs hrx
    by_cases hlt : k < A.length
    · obtain ⟨n, hn⟩ : ∃ n, A[k]? = some n := ⟨_, List.getElem?_eq_getElem hlt⟩
      obtain ⟨b, off, rfl, hc⟩ := Reads.str (HN.out.below hbr) hn
      have HT := hid (take_str hn)
      clear hn
      by_cases h1 : (100 : Int) < (n.length : Int)
      · go_wp2_with fail
        go_ret
        exact ⟨rfl, hbr⟩
      · have h1' : (n.length : Int) ≤ 100 := by omega
        have cw := fun W v h => refWithout_any v (outsF L (A.take k)) ⟨n.toArray⟩ W h (fun f hf => by have := HK2.out f (outsF_mem hf); omega) (by have := outsF_len L (A.take k); omega) (by rw [szL]; omega)
        rw [dtL, ← outsF_snoc, ← HT.out] at cw
        have CW := hid cw
        clear cw h1
        go_wp2_with fail
        refine (CW.out _ _ HX.out).mono ?_
        rintro e w4 ⟨⟨v', k', rfl, ho⟩, hb2⟩
        have hbn := chain2 hbr hbr.size hb2
        have hrn := ho.reads2.2
        clear hb2 ho hc
        go_wp2_with fail
        go_roundw
        case rel => exact ⟨k + 1, hlt, by go_num, hrn, fun m hm => by
          rw [HT.out] at hm
          rcases List.mem_append.1 hm with hm | hm
          · exact HSz.out m hm
          · rw [List.mem_singleton.1 hm]; omega, hbn⟩
        case measure => simp [intOf]; omega
    · have hke : A.take k = A := List.take_of_length_le (by omega)
      have HX2 : Hid (Reads2 wr u5 (outsF L A)) := by have h := HX.out; rw [hke] at h; exact hid h
      have HS2 : Hid (∀ n ∈ A, n.length ≤ 100) := by have h := HSz.out; rw [hke] at h; exact hid h
      have cW := fun W h1 h2 => lWithout_any v (.slice aon A.length capn) L A W h1 HK.out h2 ⟨by omega, fun n hn => by have := HS2.out n hn; omega⟩
      have CW := hid cW
      clear hke cW HX HSz
      go_wp2_with fail
      refine (CW.out _ (HR.out.below hbr) (HN.out.below hbr)).mono ?_
      rintro e w4 ⟨⟨vm, km, rfl, hom⟩, hb2⟩
      have hrm := hom.reads2.2
      have HX3 := hid (HX2.out.below hb2)
      replace hbr := chain2 hbr hbr.size hb2
      obtain ⟨M, hM⟩ : ∃ M, outsF L A = M := ⟨_, rfl⟩
      have hall : ∀ n ∈ A, allF M n = [] := fun n hn => by rw [← hM]; exact outsF_all L A n hn
      have hokM : okFs M := by rw [← hM]; exact ⟨Nat.le_trans (outsF_len L A) HK.out.1, fun f hf => HK.out.2 f (outsF_mem hf)⟩
      rw [hM] at hrm HX3
      have HM := hid hrm
      have HALL := hid hall
      have HOK := hid hokM
      clear hb2 hom hM hrm hall hokM HX2
      go_wp2_with fail
      go_loopw [43] (fun i wr2 => ∃ (k : Nat), k ≤ A.length ∧ i = .int .i64 k ∧ Below w4.heap.size w4 wr2) (fun i _ => A.length - (intOf i).toNat)
      case atStart => exact ⟨0, Nat.zero_le _, rfl, Below.refl _ _⟩
      case round =>
        obtain ⟨j, hj, rfl, hb4⟩ := hrel
        by_cases hlj : j < A.length
        · obtain ⟨n, hn⟩ : ∃ n, A[j]? = some n := ⟨_, List.getElem?_eq_getElem hlj⟩
          obtain ⟨b, off, rfl, hc⟩ := Reads.str (HN.out.below (chain2 hbr hbr.size hb4)) hn
          have hnl := HS2.out n (List.mem_of_getElem? hn)
          have hz := HALL.out n (List.mem_of_getElem? hn)
          have cg := fun W h => lGet_any vm M ⟨n.toArray⟩ W h HOK.out (by rw [szL]; omega)
          rw [dtL, hz] at cg
          have CG := hid cg
          clear cg hz hn
          go_wp2_with fail
          refine (CG.out _ (HM.out.below hb4)).mono ?_
          rintro e w5 ⟨rfl, hb2⟩
          have hbn := chain2 hb4 hb4.size hb2
          clear hb2 hc
          go_wp2_with fail
          go_roundw
          case rel => exact ⟨j + 1, hlj, by go_num, hbn⟩
          case measure => simp [intOf]; omega
        · have hML : M.length < 1000000 := by have := HOK.out.1; omega
          go_wp2_with fail
          refine (Fields_any vm M _ (HM.out.below hb4) hML).mono ?_
          rintro e w5 ⟨vf, rfl, hof, hb2⟩
          have hbn := chain2 hb4 hb4.size hb2
          have hrf := hof.reads2.2
          go_wp2_with fail
          refine (refSame_any _ _ M M _ hrf (HX3.out.below hbn) hML).mono ?_
          rintro e w6 ⟨rfl, hb3⟩
          have hbf := chain2 hbn hbn.size hb3
          go_wp2_with fail
          go_ret
          exact ⟨ret_bool (by simp), chain2 hbr hbr.size hbf⟩

set_option maxHeartbeats 4000000 in
theorem fieldLeaves_walk (v : Value) (L : List Fld) (vn : Value) (A : List (List UInt8)) (w : World) (hl : Reads2 w v L ∧ (∀ f ∈ L, f.1.length ≤ maxLen ∧ f.2.length ≤ maxLen) ∧ L.length ≤ maxLen) (hn : Reads w vn (A.map strV) ∧ (∀ x ∈ A, x.length ≤ maxLen) ∧ A.length ≤ maxLen) :
    Calls Tryd.prog 4 #[v, vn] w fun e w' => e = .returned (.bool true) ∧ Below w.heap.size w w' := by
  obtain ⟨hr, -, hLl⟩ := hl
  obtain ⟨hrn, -, hAl⟩ := hn
  unfold maxLen at hLl hAl
  have cs := fun W h => small_any v L W h (by omega)
  obtain ⟨q, hq⟩ : ∃ q, smallF L = q := ⟨_, rfl⟩
  rw [hq] at cs
  have CS := hid cs
  have HR := hid hr
  clear cs
  cases q
  · clear hq hr hrn
    go_enter Tryd.func4, Tryd.ntmps4
    go_wp2_with fail
    refine (anchor_any _).mono ?_
    rintro e w1 ⟨rfl, hb⟩
    go_wp2_with fail
    refine (CS.out _ (HR.out.below hb)).mono ?_
    rintro e w2 ⟨rfl, hb2⟩
    go_wp2_with fail
    go_ret
    exact ⟨rfl, chain2 hb hb.size hb2⟩
  · by_cases h1 : (20 : Int) < (A.length : Int)
    · obtain ⟨aon, capn, rfl⟩ := Reads.strs hrn
      clear hq hr hrn
      go_enter Tryd.func4, Tryd.ntmps4
      go_wp2_with fail
      refine (anchor_any _).mono ?_
      rintro e w1 ⟨rfl, hb⟩
      go_wp2_with fail
      refine (CS.out _ (HR.out.below hb)).mono ?_
      rintro e w2 ⟨rfl, hb2⟩
      go_wp2_with fail
      go_ret
      exact ⟨rfl, chain2 hb hb.size hb2⟩
    · exact fieldLeaves_main v L vn A w hr hrn hq (by omega)
end Go.Proofs.YtcipfbjneeafaaaDoor

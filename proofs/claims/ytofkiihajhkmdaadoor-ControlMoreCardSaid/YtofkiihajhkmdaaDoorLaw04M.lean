/-
  The walk of the statement ControlMore.
-/
import Derived.Test.YtofkiihajhkmdaaDoorLaw04A
import Derived.Test.YtofkiihajhkmdaaDoorCtlEq
import Derived.Test.YtofkiihajhkmdaaDoorGuards
import Derived.Deep.Cut
namespace Go.Proofs.YtofkiihajhkmdaaDoor
open Go.RowKit Go.Pantry

def nCCg : List UInt8 := [67, 97, 99, 104, 101, 45, 67, 111, 110, 116, 114, 111, 108]
theorem moreBox (w : World) (c : Ctl) : ∃ V, V = (w.alloc (.cells #[.bool false, .bool false, .bool false, .bool false, .bool false, .bool false, .int .i64 0, .int .i64 0, .int .i64 0, .int .i64 0] 29)).setRow w.heap.size #[.bool c.noStore, .bool c.noCache, .bool c.priv, .bool c.pub, .bool c.must, .bool c.only, .int .i64 (intO c.maxAge), .int .i64 (intO c.shared), .int .i64 (intO c.minFresh), .int .i64 (intO c.maxStale)]
    ∧ Below w.heap.size w V ∧ V.heap.size = w.heap.size + 1 ∧ rowIs V w.heap.size #[.bool c.noStore, .bool c.noCache, .bool c.priv, .bool c.pub, .bool c.must, .bool c.only, .int .i64 (intO c.maxAge), .int .i64 (intO c.shared), .int .i64 (intO c.minFresh), .int .i64 (intO c.maxStale)] 29 :=
  ⟨_, rfl, below_setRow (below_alloc _ _) (Nat.le_refl _) _, by simp [World.setRow], (rowIs_new _ _ _).setRow _⟩

theorem less_any (x y : Int) (w : World) (h : x < 0 ∨ (0 ≤ y ∧ y ≤ x)) :
    Calls Tryd.prog 20 #[.int .i64 x, .int .i64 y] w fun e w' => e = .returned (.bool true) ∧ w' = w := by
  rcases h with h | ⟨h1, h2⟩
  · have d : decide (x < 0) = true := decide_eq_true h
    go_enter Tryd.func20, Tryd.ntmps20
    go_wp2_with fail
    go_ret
    exact ⟨rfl, rfl⟩
  · have d : decide (x < 0) = false := decide_eq_false (by omega)
    go_enter Tryd.func20, Tryd.ntmps20
    go_wp2_with fail
    go_ret
    exact ⟨rfl, rfl⟩

set_option maxRecDepth 8000 in
set_option maxHeartbeats 16000000 in
theorem controlMore_main (v : Value) (L : List Fld) (s : List UInt8) (w : World) (hr : Reads2 w v L) (hsm : smallC L = true) (hs : s.length ≤ 200) :
    Calls Tryd.prog 6 #[v, strV s] w fun e w' => e = .returned (.bool true) ∧ Below w.heap.size w w' := by
  obtain ⟨hk, hl30, hk2⟩ := smallC_ok hsm
  have hkc : okFs (L ++ [(nCCg, s)]) := ⟨by rw [List.length_append]; simp; omega, fun f hf => by
    rcases List.mem_append.1 hf with hf | hf
    · exact hk.2 f hf
    · simp at hf
      subst hf
      exact ⟨by show nCCg.length ≤ 100000; decide, by show s.length ≤ 100000; omega⟩⟩
  have cs := fun W h => smallC_any v L W h (by omega)
  rw [hsm] at cs
  have ca := fun W h => ctlOf_any v L W h hk
  have cb := fun W v h => ctlOf_any v (L ++ [(nCCg, s)]) W h hkc
  have cg := fun W h => lGet_any v L ⟨nCCg.toArray⟩ W h hk (by decide)
  rw [dtL, (elementsF_same (show lowerL nCCg = lowerL nCC by decide) L).2] at cg
  have ma := more_a L
  have mb := more_b L nCCg s (by decide)
  have hF : (∀ f ∈ L, (34 : UInt8) ∉ f.2) → ∀ a ∈ allF L nCC, (34 : UInt8) ∉ a := fun h a ha => by
    obtain ⟨f, hf, rfl⟩ := allF_mem ha
    exact h f hf
  have MA := hid (fun h => ma (hF h))
  have MB := hid (fun h => mb (hF h))
  generalize ctlF (L ++ [(nCCg, s)]) = b at cb MB
  obtain ⟨a, ha⟩ : ∃ a, ctlF L = a := ⟨_, rfl⟩
  rw [ha] at ca MA
  generalize getF L nCCg = G at cg
  generalize (allF L nCC).isEmpty = em at cg MA
  have hsI : (s.length : Int) ≤ 200 := by omega
  have CS := hid cs
  have CA := hid ca
  have CB := hid cb
  have CG := hid cg
  have HR := hid hr
  have HK2 := hid hk2
  obtain ⟨ao, cap, rfl⟩ := hr.form
  clear cs ca cb cg ma mb hF ha hkc hr hk2 hsm hk
  go_enter Tryd.func6, Tryd.ntmps6
  go_wp2_with fail
  refine (anchor_any _).mono ?_
  rintro e w1 ⟨rfl, hb⟩
  go_wp2_with fail
  refine (CS.out _ (HR.out.below hb)).mono ?_
  rintro e w2 ⟨rfl, hb2⟩
  replace hb := chain2 hb hb.size hb2
  clear hb2
  go_wp2_with fail
  refine (CA.out _ (HR.out.below hb)).mono ?_
  rintro e w3 ⟨rfl, hb2⟩
  replace hb := chain2 hb hb.size hb2
  clear hb2
  obtain ⟨V, hV, hbV, hsV, hra⟩ := moreBox w3 a
  have h1 := ctl_one a.noStore a.noCache a.priv a.pub a.must a.only (intO a.maxAge) (intO a.shared) (intO a.minFresh) (intO a.maxStale)
  have hga : w.heap.size ≤ w3.heap.size := hb.size
  replace hb := chain2 hb hb.size hbV
  have hbE : Below V.heap.size V (V.alloc (.cells #[] 36)) := below_alloc _ _
  have hoE : (V.alloc (.cells #[] 36)).ownsRow (w3.heap.size + 1) 36 2 (.slice (some ⟨w3.heap.size + 1, 0, none⟩) 0 0) 0 (fldCells []) := by rw [← hsV]; exact World.ownsRow_made V #[] 0 (Nat.le_refl _) (by decide) rfl
  have hr0 := HR.out.below (chain2 hb hb.size hbE)
  rw [hV] at hoE hr0 hbE
  go_wp2_with (first
    | (refine wpList_store_row rfl 29 _ _ rfl w3.heap.size _ rfl rfl 29 zeroC (rowIs_new _ _ _) infoCtl rfl h1 ?_)
    | (at_builtin; (refine wpList_append_flds _ rfl _ _ 23 rfl (w3.heap.size + 1) 36 Tryd.underlying23 infoFld rfl (by decide) rfl hoE hr0 rfl (by omega) (by simp [World.setRow]) ?_); intro v1 w4 ho4 hb4; have hs4 : w3.heap.size + 1 ≤ w4.heap.size := Nat.le_trans (by simp [World.setRow]) hb4.size)
    | (at_builtin; (refine wpList_append_fld _ rfl _ _ 23 rfl (w3.heap.size + 1) 36 Tryd.underlying23 infoFld rfl (by decide) rfl ho4 (nCCg, s) rfl (by first | rfl | simp) (by simp; omega) hs4 ?_); intro v2 w5 ho5 hb5))
  rw [← hV] at hb4 hbE
  have hbV5 : Below (w3.heap.size + 1) V w5 := (hbE.mono (by omega)).trans (hb4.trans hb5)
  replace hra := hra.below (hbV5.mono (by omega))
  replace hb : Below w.heap.size w w5 := hb.trans (hbV5.mono (by omega))
  have hrb5 : Reads2 w5 v2 (L ++ [(nCCg, s)]) := by have h := ho5.reads2.2; simpa using h
  clear hb4 hbE hbV5 ho5 ho4 hr0 hoE hV hs4 h1 hbV hb5
  refine (CB.out _ _ hrb5).mono ?_
  rintro e w6 ⟨rfl, hb6⟩
  replace hra := hra.below hb6
  replace hb := chain2 hb hb.size hb6
  have hab : w3.heap.size < w6.heap.size := hra.lt
  clear hb6 hrb5
  obtain ⟨Z, hZ, hbZ, hsZ, hrb⟩ := moreBox w6 b
  have h1 := ctl_one b.noStore b.noCache b.priv b.pub b.must b.only (intO b.maxAge) (intO b.shared) (intO b.minFresh) (intO b.maxStale)
  replace hra := hra.below hbZ
  replace hb := chain2 hb hb.size hbZ
  go_wp2_with (refine wpList_store_row rfl 29 _ _ rfl w6.heap.size _ rfl rfl 29 zeroC (rowIs_new _ _ _) infoCtl rfl h1 ?_)
  rw [← hZ]
  clear hZ h1 hbZ hsZ hsV
  generalize w3.heap.size = ga at hra hab hga ⊢
  generalize w6.heap.size = gb at hrb hab ⊢
  go_loopw [35] (fun i wr => ∃ k : Nat, k ≤ L.length ∧ i = .int .i64 k ∧ (∀ f ∈ L.take k, (34 : UInt8) ∉ f.2) ∧ Below Z.heap.size Z wr) (fun i _ => L.length - (intOf i).toNat)
  case atStart => exact ⟨0, Nat.zero_le _, rfl, by simp, Below.refl _ _⟩
  case round =>
    obtain ⟨k, hkl, rfl, hall, hbk⟩ := hrel
    have HA := hid hall
    clear hall
    by_cases hlt : k < L.length
    · obtain ⟨f, hf⟩ : ∃ f, L[k]? = some f := ⟨_, List.getElem?_eq_getElem hlt⟩
      obtain ⟨bf, off, rfl, hc1, hc2⟩ := (HR.out.below (chain2 hb hb.size hbk)).fld hf
      have HT := hid (take_fld hf)
      have hfl : f.2.length ≤ 300 := (HK2.out f (List.mem_of_getElem? hf)).2
      clear hf
      obtain ⟨f1, f2⟩ := f
      obtain ⟨S, rfl⟩ : ∃ S : ByteArray, f2 = S.data.toList := ⟨⟨f2.toArray⟩, (dtL _).symm⟩
      have hS : strV S.data.toList = .string S := congrArg Value.string (by apply bytes_ext; simp)
      simp only at hc1 hc2 hfl
      rw [hS] at hc2
      rw [size_list] at hfl
      obtain ⟨X, hX⟩ : ∃ X, X = wr.alloc (.cells #[strV f1, .string S] 36) := ⟨_, rfl⟩
      have hbX : Below wr.heap.size wr X := by rw [hX]; exact below_alloc _ _
      have hx2 : X.cell? ⟨wr.heap.size, 1, none⟩ = some (.string S) := by rw [hX, World.cell?_alloc_at _ _ _ _ rfl]; rfl
      rw [hX] at hx2
      go_wp2_with fail
      rw [← hX]
      rw [← hX] at hx2
      clear hX hc1 hc2 hS
      replace hbX := chain2 hbk hbk.size hbX
      go_loop [42] (fun i => ∃ j : Nat, j ≤ S.size ∧ i = .int .i64 j ∧ (34 : UInt8) ∉ S.data.toList.take j) (fun i => S.size - (intOf i).toNat)
      case atStart => exact ⟨0, Nat.zero_le _, rfl, by simp⟩
      case round =>
        obtain ⟨j, hj, rfl, hno⟩ := hrel
        have HN := hid hno
        clear hno
        by_cases hjl : j < S.size
        · go_wp2_with fail
          · go_ret
            exact ⟨rfl, hb.trans (hbX.mono hb.size)⟩
          · have hc : S[j] ≠ 34 := byte_no 34 (z := 34) (by assumption) rfl
            go_round
            case rel => exact ⟨j + 1, hjl, by go_num, by rw [take_succ_list S j hjl]; simp [HN.out, Ne.symm hc]⟩
            case measure => simp [intOf]; omega
        · have h34 : (34 : UInt8) ∉ S.data.toList := by rw [← take_all S j hjl]; exact HN.out
          have H34 := hid h34
          clear h34
          go_wp2_with fail
          go_roundw
          case rel =>
            refine ⟨k + 1, hlt, by go_num, ?_, hbX⟩
            intro f hf
            rw [HT.out] at hf
            rcases List.mem_append.1 hf with hf | hf
            · exact HA.out f hf
            · simp at hf
              subst hf
              exact H34.out
          case measure => simp [intOf]; omega
    · have hall : ∀ f ∈ L, (34 : UInt8) ∉ f.2 := by
        have h := HA.out
        rw [List.take_of_length_le (show L.length ≤ k by omega)] at h
        exact h
      have ma := MA.out hall
      have mb := MB.out hall
      have HMA := hid ma
      have HMB := hid mb
      clear ma mb hall MA MB HA
      replace hra := hra.below hbk
      replace hrb := hrb.below hbk
      replace hb := chain2 hb hb.size hbk
      clear hbk
      go_wp2_with fail
      refine (CG.out _ (HR.out.below hb)).mono ?_
      rintro e w7 ⟨rfl, hb7⟩
      replace hra := hra.below hb7
      replace hrb := hrb.below hb7
      replace hb := chain2 hb hb.size hb7
      clear hb7
      obtain ⟨m1, m2, m3, m4, m5, m6, m7, m8, m9, m10⟩ := more_all (List.flatMap listL (allF L nCC)) (listL s)
      cases em
      focus
        have ea : a = ctlE (List.flatMap listL (allF L nCC)) false := by
          have h := HMA.out
          simpa using h
        subst ea
        have eb := HMB.out
        subst eb
        clear HMA HMB
        generalize ctlE (List.flatMap listL (allF L nCC)) false = x at *
        generalize ctlE (List.flatMap listL (allF L nCC) ++ listL s) false = y at *
        have cA0 : (w7).cell? ⟨ga, 0, none⟩ = some (.bool x.noStore) := hra.cell 0
        have cB0 : (w7).cell? ⟨gb, 0, none⟩ = some (.bool y.noStore) := hrb.cell 0
        have cA1 : (w7).cell? ⟨ga, 1, none⟩ = some (.bool x.noCache) := hra.cell 1
        have cB1 : (w7).cell? ⟨gb, 1, none⟩ = some (.bool y.noCache) := hrb.cell 1
        have cA2 : (w7).cell? ⟨ga, 2, none⟩ = some (.bool x.priv) := hra.cell 2
        have cB2 : (w7).cell? ⟨gb, 2, none⟩ = some (.bool y.priv) := hrb.cell 2
        have cA3 : (w7).cell? ⟨ga, 3, none⟩ = some (.bool x.pub) := hra.cell 3
        have cB3 : (w7).cell? ⟨gb, 3, none⟩ = some (.bool y.pub) := hrb.cell 3
        have cA4 : (w7).cell? ⟨ga, 4, none⟩ = some (.bool x.must) := hra.cell 4
        have cB4 : (w7).cell? ⟨gb, 4, none⟩ = some (.bool y.must) := hrb.cell 4
        have cA5 : (w7).cell? ⟨ga, 5, none⟩ = some (.bool x.only) := hra.cell 5
        have cB5 : (w7).cell? ⟨gb, 5, none⟩ = some (.bool y.only) := hrb.cell 5
        have cA6 : (w7).cell? ⟨ga, 6, none⟩ = some (.int .i64 (intO x.maxAge)) := hra.cell 6
        have cB6 : (w7).cell? ⟨gb, 6, none⟩ = some (.int .i64 (intO y.maxAge)) := hrb.cell 6
        have cA7 : (w7).cell? ⟨ga, 7, none⟩ = some (.int .i64 (intO x.shared)) := hra.cell 7
        have cB7 : (w7).cell? ⟨gb, 7, none⟩ = some (.int .i64 (intO y.shared)) := hrb.cell 7
        have cA8 : (w7).cell? ⟨ga, 8, none⟩ = some (.int .i64 (intO x.minFresh)) := hra.cell 8
        have cB8 : (w7).cell? ⟨gb, 8, none⟩ = some (.int .i64 (intO y.minFresh)) := hrb.cell 8
        have cA9 : (w7).cell? ⟨ga, 9, none⟩ = some (.int .i64 (intO x.maxStale)) := hra.cell 9
        have cB9 : (w7).cell? ⟨gb, 9, none⟩ = some (.int .i64 (intO y.maxStale)) := hrb.cell 9
        clear hra hrb CA CB CG HR HK2 CS
        generalize x.noStore = x0 at cA0 m1
        generalize y.noStore = y0 at cB0 m1
        generalize x.noCache = x1 at cA1 m2
        generalize y.noCache = y1 at cB1 m2
        generalize x.priv = x2 at cA2 m3
        generalize y.priv = y2 at cB2 m3
        generalize x.pub = x3 at cA3 m4
        generalize y.pub = y3 at cB3 m4
        generalize x.must = x4 at cA4 m5
        generalize y.must = y4 at cB4 m5
        generalize x.only = x5 at cA5 m6
        generalize y.only = y5 at cB5 m6
        generalize intO x.maxAge = x6 at cA6 m7
        generalize intO y.maxAge = y6 at cB6 m7
        generalize intO x.shared = x7 at cA7 m8
        generalize intO y.shared = y7 at cB7 m8
        generalize intO x.maxStale = x9 at cA9 m9
        generalize intO y.maxStale = y9 at cB9 m9
        generalize intO x.minFresh = x8 at cA8 m10
        generalize intO y.minFresh = y8 at cB8 m10
        have L6 := hid (fun W => less_any x6 y6 W m7)
        have L7 := hid (fun W => less_any x7 y7 W m8)
        have L9 := hid (fun W => less_any x9 y9 W m9)
        have d8 : decide (x8 ≤ y8) = true := decide_eq_true m10
        clear m7 m8 m9 m10
        have HM1 := hid m1
        have HM2 := hid m2
        have HM3 := hid m3
        have HM4 := hid m4
        have HM5 := hid m5
        have HM6 := hid m6
        clear m1 m2 m3 m4 m5 m6
        go_upto_if 58 with fail
        refine wp_cond_false rfl ?_
        iterate 3 go_step
        simp only [List.append]
        iterate 22 (first | go_values | go_skip | go_guarded | go_step | go_upon | go_back)
        refine wpList_or3 64 65 66 3 rfl rfl rfl rfl rfl x0 y0 HM1.out (.pointer (some ⟨gb, 0, none⟩)) ?h1 ?h2 ?h3 ?y1 ?y2 ?y3 ?_
        case h1 => rfl
        case h2 => exact fun _ => rfl
        case h3 => exact fun _ _ => rfl
        case y1 => go_simp
        case y2 => go_simp
        case y3 =>
          intro u1 u2 hu
          cases x0
          · rfl
          · rw [hu rfl]
            have hy : y0 = true := HM1.out
            rw [hy]
            rfl
        intro u64 u65
        iterate 15 (first | go_values | go_skip | go_guarded | go_step | go_upon | go_back)
        refine wpList_or3 72 73 74 11 rfl rfl rfl rfl rfl x1 y1 HM2.out (.pointer (some ⟨gb, 1, none⟩)) ?h1 ?h2 ?h3 ?y1 ?y2 ?y3 ?_
        case h1 => rfl
        case h2 => exact fun _ => rfl
        case h3 => exact fun _ _ => rfl
        case y1 => go_simp
        case y2 => go_simp
        case y3 =>
          intro u1 u2 hu
          cases x1
          · rfl
          · rw [hu rfl]
            have hy : y1 = true := HM2.out
            rw [hy]
            rfl
        intro u72 u73
        iterate 18 (first | go_values | go_skip | go_guarded | go_step | go_upon | go_back)
        refine wpList_or3 81 82 83 20 rfl rfl rfl rfl rfl x2 y2 HM3.out (.pointer (some ⟨gb, 2, none⟩)) ?h1 ?h2 ?h3 ?y1 ?y2 ?y3 ?_
        case h1 => rfl
        case h2 => exact fun _ => rfl
        case h3 => exact fun _ _ => rfl
        case y1 => go_simp
        case y2 => go_simp
        case y3 =>
          intro u1 u2 hu
          cases x2
          · rfl
          · rw [hu rfl]
            have hy : y2 = true := HM3.out
            rw [hy]
            rfl
        intro u81 u82
        iterate 18 (first | go_values | go_skip | go_guarded | go_step | go_upon | go_back)
        refine wpList_or3 90 91 92 29 rfl rfl rfl rfl rfl x3 y3 HM4.out (.pointer (some ⟨gb, 3, none⟩)) ?h1 ?h2 ?h3 ?y1 ?y2 ?y3 ?_
        case h1 => rfl
        case h2 => exact fun _ => rfl
        case h3 => exact fun _ _ => rfl
        case y1 => go_simp
        case y2 => go_simp
        case y3 =>
          intro u1 u2 hu
          cases x3
          · rfl
          · rw [hu rfl]
            have hy : y3 = true := HM4.out
            rw [hy]
            rfl
        intro u90 u91
        iterate 18 (first | go_values | go_skip | go_guarded | go_step | go_upon | go_back)
        refine wpList_or3 99 100 101 38 rfl rfl rfl rfl rfl x4 y4 HM5.out (.pointer (some ⟨gb, 4, none⟩)) ?h1 ?h2 ?h3 ?y1 ?y2 ?y3 ?_
        case h1 => rfl
        case h2 => exact fun _ => rfl
        case h3 => exact fun _ _ => rfl
        case y1 => go_simp
        case y2 => go_simp
        case y3 =>
          intro u1 u2 hu
          cases x4
          · rfl
          · rw [hu rfl]
            have hy : y4 = true := HM5.out
            rw [hy]
            rfl
        intro u99 u100
        iterate 18 (first | go_values | go_skip | go_guarded | go_step | go_upon | go_back)
        refine wpList_or3 108 109 110 47 rfl rfl rfl rfl rfl x5 y5 HM6.out (.pointer (some ⟨gb, 5, none⟩)) ?h1 ?h2 ?h3 ?y1 ?y2 ?y3 ?_
        case h1 => rfl
        case h2 => exact fun _ => rfl
        case h3 => exact fun _ _ => rfl
        case y1 => go_simp
        case y2 => go_simp
        case y3 =>
          intro u1 u2 hu
          cases x5
          · rfl
          · rw [hu rfl]
            have hy : y5 = true := HM6.out
            rw [hy]
            rfl
        intro u108 u109
        iterate 21 (first | go_values | go_skip | go_guarded | go_step | go_upon | go_back)
        iterate 2 (first | go_values | go_skip | go_guarded | go_step | go_upon | go_back)
        refine (L6.out _).mono ?_
        rintro e w9 ⟨rfl, rfl⟩
        go_wp2_with fail
        refine (L7.out _).mono ?_
        rintro e w9 ⟨rfl, rfl⟩
        go_wp2_with fail
        refine (L9.out _).mono ?_
        rintro e w9 ⟨rfl, rfl⟩
        go_wp2_with fail
        go_ret
        exact ⟨rfl, hb⟩
      focus
        have ea : ({ a with noCache := false } : Ctl) = ctlE (List.flatMap listL (allF L nCC)) false := by
          have h := HMA.out
          simpa using h
        have eb := HMB.out
        subst eb
        clear HMA HMB
        generalize ctlE (List.flatMap listL (allF L nCC)) false = x at *
        generalize ctlE (List.flatMap listL (allF L nCC) ++ listL s) false = y at *
        have hcs : w7.cell? ⟨ga, 1, none⟩ = some (.bool a.noCache) := hra.cell 1
        have hfs := hra.free 1
        have hrb2 := hrb.setCell_other hra (by omega) 1 (.bool false)
        have hra2 : rowIs (w7.setCell ⟨ga, 1, none⟩ (.bool false)) ga #[.bool x.noStore, .bool x.noCache, .bool x.priv, .bool x.pub, .bool x.must, .bool x.only, .int .i64 (intO x.maxAge), .int .i64 (intO x.shared), .int .i64 (intO x.minFresh), .int .i64 (intO x.maxStale)] 29 := by
          rw [← ea]
          exact hra.setCell 1 (.bool false)
        have hb2 : Below w.heap.size w (w7.setCell ⟨ga, 1, none⟩ (.bool false)) := hb.setCell (p := ⟨ga, 1, none⟩) hga _
        clear ea hra hrb hb
        go_upto_if 58 with fail
        refine wp_cond_true rfl ?_
        iterate 10 (first | go_values | go_skip | go_guarded | go_step | go_upon | go_back)
        clear hcs hfs
        generalize w7.setCell ⟨ga, 1, none⟩ (.bool false) = W at hra2 hrb2 hb2 ⊢
        have hra := hra2
        have hrb := hrb2
        have hb := hb2
        clear hra2 hrb2 hb2
        have cA0 : (W).cell? ⟨ga, 0, none⟩ = some (.bool x.noStore) := hra.cell 0
        have cB0 : (W).cell? ⟨gb, 0, none⟩ = some (.bool y.noStore) := hrb.cell 0
        have cA1 : (W).cell? ⟨ga, 1, none⟩ = some (.bool x.noCache) := hra.cell 1
        have cB1 : (W).cell? ⟨gb, 1, none⟩ = some (.bool y.noCache) := hrb.cell 1
        have cA2 : (W).cell? ⟨ga, 2, none⟩ = some (.bool x.priv) := hra.cell 2
        have cB2 : (W).cell? ⟨gb, 2, none⟩ = some (.bool y.priv) := hrb.cell 2
        have cA3 : (W).cell? ⟨ga, 3, none⟩ = some (.bool x.pub) := hra.cell 3
        have cB3 : (W).cell? ⟨gb, 3, none⟩ = some (.bool y.pub) := hrb.cell 3
        have cA4 : (W).cell? ⟨ga, 4, none⟩ = some (.bool x.must) := hra.cell 4
        have cB4 : (W).cell? ⟨gb, 4, none⟩ = some (.bool y.must) := hrb.cell 4
        have cA5 : (W).cell? ⟨ga, 5, none⟩ = some (.bool x.only) := hra.cell 5
        have cB5 : (W).cell? ⟨gb, 5, none⟩ = some (.bool y.only) := hrb.cell 5
        have cA6 : (W).cell? ⟨ga, 6, none⟩ = some (.int .i64 (intO x.maxAge)) := hra.cell 6
        have cB6 : (W).cell? ⟨gb, 6, none⟩ = some (.int .i64 (intO y.maxAge)) := hrb.cell 6
        have cA7 : (W).cell? ⟨ga, 7, none⟩ = some (.int .i64 (intO x.shared)) := hra.cell 7
        have cB7 : (W).cell? ⟨gb, 7, none⟩ = some (.int .i64 (intO y.shared)) := hrb.cell 7
        have cA8 : (W).cell? ⟨ga, 8, none⟩ = some (.int .i64 (intO x.minFresh)) := hra.cell 8
        have cB8 : (W).cell? ⟨gb, 8, none⟩ = some (.int .i64 (intO y.minFresh)) := hrb.cell 8
        have cA9 : (W).cell? ⟨ga, 9, none⟩ = some (.int .i64 (intO x.maxStale)) := hra.cell 9
        have cB9 : (W).cell? ⟨gb, 9, none⟩ = some (.int .i64 (intO y.maxStale)) := hrb.cell 9
        clear hra hrb CA CB CG HR HK2 CS
        generalize x.noStore = x0 at cA0 m1
        generalize y.noStore = y0 at cB0 m1
        generalize x.noCache = x1 at cA1 m2
        generalize y.noCache = y1 at cB1 m2
        generalize x.priv = x2 at cA2 m3
        generalize y.priv = y2 at cB2 m3
        generalize x.pub = x3 at cA3 m4
        generalize y.pub = y3 at cB3 m4
        generalize x.must = x4 at cA4 m5
        generalize y.must = y4 at cB4 m5
        generalize x.only = x5 at cA5 m6
        generalize y.only = y5 at cB5 m6
        generalize intO x.maxAge = x6 at cA6 m7
        generalize intO y.maxAge = y6 at cB6 m7
        generalize intO x.shared = x7 at cA7 m8
        generalize intO y.shared = y7 at cB7 m8
        generalize intO x.maxStale = x9 at cA9 m9
        generalize intO y.maxStale = y9 at cB9 m9
        generalize intO x.minFresh = x8 at cA8 m10
        generalize intO y.minFresh = y8 at cB8 m10
        have L6 := hid (fun W => less_any x6 y6 W m7)
        have L7 := hid (fun W => less_any x7 y7 W m8)
        have L9 := hid (fun W => less_any x9 y9 W m9)
        have d8 : decide (x8 ≤ y8) = true := decide_eq_true m10
        clear m7 m8 m9 m10
        have HM1 := hid m1
        have HM2 := hid m2
        have HM3 := hid m3
        have HM4 := hid m4
        have HM5 := hid m5
        have HM6 := hid m6
        clear m1 m2 m3 m4 m5 m6
        simp only [List.append]
        iterate 22 (first | go_values | go_skip | go_guarded | go_step | go_upon | go_back)
        refine wpList_or3 64 65 66 3 rfl rfl rfl rfl rfl x0 y0 HM1.out (.pointer (some ⟨gb, 0, none⟩)) ?h1 ?h2 ?h3 ?y1 ?y2 ?y3 ?_
        case h1 => rfl
        case h2 => exact fun _ => rfl
        case h3 => exact fun _ _ => rfl
        case y1 => go_simp
        case y2 => go_simp
        case y3 =>
          intro u1 u2 hu
          cases x0
          · rfl
          · rw [hu rfl]
            have hy : y0 = true := HM1.out
            rw [hy]
            rfl
        intro u64 u65
        iterate 15 (first | go_values | go_skip | go_guarded | go_step | go_upon | go_back)
        refine wpList_or3 72 73 74 11 rfl rfl rfl rfl rfl x1 y1 HM2.out (.pointer (some ⟨gb, 1, none⟩)) ?h1 ?h2 ?h3 ?y1 ?y2 ?y3 ?_
        case h1 => rfl
        case h2 => exact fun _ => rfl
        case h3 => exact fun _ _ => rfl
        case y1 => go_simp
        case y2 => go_simp
        case y3 =>
          intro u1 u2 hu
          cases x1
          · rfl
          · rw [hu rfl]
            have hy : y1 = true := HM2.out
            rw [hy]
            rfl
        intro u72 u73
        iterate 18 (first | go_values | go_skip | go_guarded | go_step | go_upon | go_back)
        refine wpList_or3 81 82 83 20 rfl rfl rfl rfl rfl x2 y2 HM3.out (.pointer (some ⟨gb, 2, none⟩)) ?h1 ?h2 ?h3 ?y1 ?y2 ?y3 ?_
        case h1 => rfl
        case h2 => exact fun _ => rfl
        case h3 => exact fun _ _ => rfl
        case y1 => go_simp
        case y2 => go_simp
        case y3 =>
          intro u1 u2 hu
          cases x2
          · rfl
          · rw [hu rfl]
            have hy : y2 = true := HM3.out
            rw [hy]
            rfl
        intro u81 u82
        iterate 18 (first | go_values | go_skip | go_guarded | go_step | go_upon | go_back)
        refine wpList_or3 90 91 92 29 rfl rfl rfl rfl rfl x3 y3 HM4.out (.pointer (some ⟨gb, 3, none⟩)) ?h1 ?h2 ?h3 ?y1 ?y2 ?y3 ?_
        case h1 => rfl
        case h2 => exact fun _ => rfl
        case h3 => exact fun _ _ => rfl
        case y1 => go_simp
        case y2 => go_simp
        case y3 =>
          intro u1 u2 hu
          cases x3
          · rfl
          · rw [hu rfl]
            have hy : y3 = true := HM4.out
            rw [hy]
            rfl
        intro u90 u91
        iterate 18 (first | go_values | go_skip | go_guarded | go_step | go_upon | go_back)
        refine wpList_or3 99 100 101 38 rfl rfl rfl rfl rfl x4 y4 HM5.out (.pointer (some ⟨gb, 4, none⟩)) ?h1 ?h2 ?h3 ?y1 ?y2 ?y3 ?_
        case h1 => rfl
        case h2 => exact fun _ => rfl
        case h3 => exact fun _ _ => rfl
        case y1 => go_simp
        case y2 => go_simp
        case y3 =>
          intro u1 u2 hu
          cases x4
          · rfl
          · rw [hu rfl]
            have hy : y4 = true := HM5.out
            rw [hy]
            rfl
        intro u99 u100
        iterate 18 (first | go_values | go_skip | go_guarded | go_step | go_upon | go_back)
        refine wpList_or3 108 109 110 47 rfl rfl rfl rfl rfl x5 y5 HM6.out (.pointer (some ⟨gb, 5, none⟩)) ?h1 ?h2 ?h3 ?y1 ?y2 ?y3 ?_
        case h1 => rfl
        case h2 => exact fun _ => rfl
        case h3 => exact fun _ _ => rfl
        case y1 => go_simp
        case y2 => go_simp
        case y3 =>
          intro u1 u2 hu
          cases x5
          · rfl
          · rw [hu rfl]
            have hy : y5 = true := HM6.out
            rw [hy]
            rfl
        intro u108 u109
        iterate 21 (first | go_values | go_skip | go_guarded | go_step | go_upon | go_back)
        iterate 2 (first | go_values | go_skip | go_guarded | go_step | go_upon | go_back)
        refine (L6.out _).mono ?_
        rintro e w9 ⟨rfl, rfl⟩
        go_wp2_with fail
        refine (L7.out _).mono ?_
        rintro e w9 ⟨rfl, rfl⟩
        go_wp2_with fail
        refine (L9.out _).mono ?_
        rintro e w9 ⟨rfl, rfl⟩
        go_wp2_with fail
        go_ret
        exact ⟨rfl, hb⟩
set_option maxRecDepth 8000 in
theorem controlMore_walk (v : Value) (L : List Fld) (s : ByteArray) (w : World) (hl : Reads2 w v L ∧ (∀ f ∈ L, f.1.length ≤ maxLen ∧ f.2.length ≤ maxLen) ∧ L.length ≤ maxLen) (_hs : s.size ≤ maxLen) :
    Calls Tryd.prog 6 #[v, .string s] w fun e w' => e = .returned (.bool true) ∧ Below w.heap.size w w' := by
  obtain ⟨hr, -, hLm⟩ := hl
  unfold maxLen at hLm
  have cs := fun W h => smallC_any v L W h (by omega)
  obtain ⟨q, hq⟩ : ∃ q, smallC L = q := ⟨_, rfl⟩
  rw [hq] at cs
  by_cases hall : q = true ∧ (s.size : Int) ≤ 200
  · obtain ⟨rfl, a1⟩ := hall
    obtain ⟨S, rfl⟩ := as_list s
    rw [szL] at a1
    exact controlMore_main v L S w hr hq (by omega)
  · have CS := hid cs
    have HR := hid hr
    clear cs hr hq
    have hcase : q = false ∨ (q = true ∧ decide ((200 : Int) < (s.size : Int)) = true) := by
      cases q
      · exact .inl rfl
      · refine .inr ⟨rfl, ?_⟩
        simp at hall
        rw [decide_eq_true_eq]; omega
    clear hall
    rcases hcase with rfl | ⟨rfl, h1⟩
    · go_enter Tryd.func6, Tryd.ntmps6
      go_wp2_with fail
      refine (anchor_any _).mono ?_
      rintro e w1 ⟨rfl, hb⟩
      go_wp2_with fail
      refine (CS.out _ (HR.out.below hb)).mono ?_
      rintro e w2 ⟨rfl, hb2⟩
      go_wp2_with fail
      go_ret
      exact ⟨rfl, chain2 hb hb.size hb2⟩
    · go_enter Tryd.func6, Tryd.ntmps6
      go_wp2_with fail
      refine (anchor_any _).mono ?_
      rintro e w1 ⟨rfl, hb⟩
      go_wp2_with fail
      refine (CS.out _ (HR.out.below hb)).mono ?_
      rintro e w2 ⟨rfl, hb2⟩
      go_wp2_with fail
      go_ret
      exact ⟨rfl, chain2 hb hb.size hb2⟩
end Go.Proofs.YtofkiihajhkmdaaDoor

/-
  The document's answers of layer 8: Host.
-/
import Derived.Test.YtenijpcjemdhfaaGreatDoorP10d10
import Derived.Test.YtenijpcjemdhfaaGreatDoorPlaceQ0
import Derived.Test.YtenijpcjemdhfaaGreatDoorP10dRef8N

namespace Go.Pantry
open Go.RowKit
theorem hostN_bad {n d : List UInt8} (h : n.length < 1 ∨ 40 < n.length ∨ 5 < d.length) : hostN n d = none := by
  unfold hostN
  by_cases h1 : n = [] ∨ 40 < n.length ∨ n.all isHC = false
  · rw [if_pos h1]
  · rw [if_neg h1]
    have h5 : 5 < d.length := by
      rcases h with h | h | h
      · exact absurd (.inl (List.eq_nil_of_length_eq_zero (by omega))) h1
      · exact absurd (.inr (.inl h)) h1
      · exact h
    rw [if_neg (by intro e; rw [e] at h5; simp at h5), if_pos (.inl h5)]
theorem hostN_none' {n d : List UInt8} (h : n = [] ∨ 40 < n.length ∨ n.all isHC = false) : hostN n d = none := by
  unfold hostN; rw [if_pos h]
theorem hc_ways (c : UInt8) : (isHC c = true ∧ ((isLow c || isUp c || isDig c) = true ∨ ((isLow c || isUp c || isDig c) = false ∧ ((c.toNat : Int) != 45) = false) ∨ ((isLow c || isUp c || isDig c) = false ∧ ((c.toNat : Int) != 45) = true ∧ ((c.toNat : Int) != 46) = false))) ∨ (isHC c = false ∧ (isLow c || isUp c || isDig c) = false ∧ ((c.toNat : Int) != 45) = true ∧ ((c.toNat : Int) != 46) = true) := by
  have h1 : ((c.toNat : Int) != 45) = !(c == 45) := by rw [byte_beq c 45 (z := 45) rfl]; rfl
  have h2 : ((c.toNat : Int) != 46) = !(c == 46) := by rw [byte_beq c 46 (z := 46) rfl]; rfl
  rw [h1, h2]
  unfold isHC isAl
  cases (isLow c || isUp c || isDig c) <;> cases (c == 45) <;> cases (c == 46) <;> simp
theorem numL_small {d : List UInt8} (h5 : d.length ≤ 5) (hd : d.all isDig = true) (h0 : d ≠ []) : numberL d = some (valL d) := by
  have := val_lt h5 hd
  unfold numberL
  rw [hd]
  have : d.isEmpty = false := by rw [List.isEmpty_eq_false_iff]; exact h0
  rw [this]
  simp; omega
end Go.Pantry
namespace Go.Proofs.YtenijpcjemdhfaaGreatDoor
open Go.RowKit Go.Pantry

set_option maxRecDepth 100000 in
set_option maxHeartbeats 8000000 in
theorem refHost_any (s : ByteArray) (w : World) (hs : s.size ≤ 100000) :
    Calls Tryz.prog 59 #[.string s] w fun e w' => e = .returned (.tuple #[strV ((hostL s.data.toList).getD []), .bool (hostL s.data.toList).isSome]) ∧ Below w.heap.size w w' := by
  go_enter Tryz.func59, Tryz.ntmps59
  go_wp2_with fail
  go_loop [4, 5, 6] (fun nv dv i => ∃ (k : Nat) (E0 : ByteArray), k ≤ s.size ∧ i = .int .i64 k ∧ ((s.data.toList.take k).all fun x => x != 58) = true ∧ E0.data.toList = [] ∧ nv = .string s ∧ dv = .string E0) (fun _ _ i => s.size - (intOf i).toNat)
  case atStart => exact ⟨0, ⟨#[]⟩, Nat.zero_le _, rfl, rfl, rfl, rfl, rfl⟩
  case round =>
    obtain ⟨k, E0, hk, rfl, hp, hE, rfl, rfl⟩ := hrel
    have hno : (58 : UInt8) ∉ s.data.toList.take k := fun hm => by
      have := List.all_eq_true.1 hp 58 hm
      simp at this
    have HNO := hid hno
    have HP := hid hp
    have HE0 := hid hE
    clear hp hno hE
    by_cases hlt : k < s.size
    · have f1 : decide ((k : Int) < (s.size : Int)) = true := by simp; omega
      by_cases hq : s[k] = 58
      · have fq : ((s[k].toNat : Int) == 58) = true := by rw [hq]; rfl
        have hsp := split_at hlt
        rw [hq] at hsp
        obtain ⟨b1, b2, b3⟩ := bef_at 58 (b := s.data.toList.drop (k + 1)) HNO.out
        rw [← hsp] at b1 b2 b3
        have x1 := ext_take s k
        have x2 := ext_drop s (k + 1)
        obtain ⟨N, hN⟩ : ∃ N, s.extract 0 k = N := ⟨_, rfl⟩
        obtain ⟨D, hD⟩ : ∃ D, s.extract (k + 1) s.size = D := ⟨_, rfl⟩
        rw [hN] at x1
        rw [hD] at x2
        have hHN : hostL s.data.toList = hostN N.data.toList D.data.toList := by rw [hostL_eq, b1, b2, x1, x2]
        have HHN := hid hHN
        clear b1 b2 b3 hsp hq x1 x2 hHN HNO HP HE0
        have hH2 : hostL s.data.toList = hostN N.data.toList D.data.toList := HHN.out
        by_cases g1 : N.size < 1 ∨ 40 < N.size ∨ 5 < D.size
        · have hn := hostN_bad (n := N.data.toList) (d := D.data.toList) (by rw [size_list, size_list]; exact g1)
          rw [hn] at hH2
          have HH := hid hH2
          have e : decide ((N.size : Int) < 1) = true ∨ (decide ((N.size : Int) < 1) = false ∧ decide ((40 : Int) < (N.size : Int)) = true) ∨ (decide ((N.size : Int) < 1) = false ∧ decide ((40 : Int) < (N.size : Int)) = false ∧ decide ((5 : Int) < (D.size : Int)) = true) := by
            simp only [decide_eq_true_eq, decide_eq_false_iff_not]
            omega
          clear hn hH2 g1 HHN
          rcases e with e1 | ⟨e1, e2⟩ | ⟨e1, e2, e3⟩
          all_goals
            go_wp2_with fail
            go_ret2
            exact ⟨by rw [HH.out]; rfl, Below.refl _ _⟩
        · have a1 : decide ((N.size : Int) < 1) = false := by rw [decide_eq_false_iff_not]; omega
          have a2 : decide ((40 : Int) < (N.size : Int)) = false := by rw [decide_eq_false_iff_not]; omega
          have a3 : decide ((5 : Int) < (D.size : Int)) = false := by rw [decide_eq_false_iff_not]; omega
          have hNs : N.size ≤ 40 := by omega
          have hDs : D.size ≤ 5 := by omega
          have hN1 : N.data.toList ≠ [] := by
            intro h; have h2 := size_list N; rw [h] at h2; simp at h2; omega
          have HN1 := hid hN1
          clear g1 hN1 hH2
          go_wp2_with fail
          go_loop [7] (fun i => ∃ j : Nat, j ≤ N.size ∧ i = .int .i64 j ∧ ((N.data.toList.take j).all isHC) = true) (fun i => N.size - (intOf i).toNat)
          case atStart => exact ⟨0, Nat.zero_le _, rfl, rfl⟩
          case round =>
            obtain ⟨j, hj, rfl, hp2⟩ := hrel
            have HP2 := hid hp2
            clear hp2
            by_cases hjt : j < N.size
            · have fj : decide ((j : Int) < (N.size : Int)) = true := by simp; omega
              have hstep2 := all_take_succ N.data.toList isHC j (by rw [size_list]; exact hjt)
              rw [getElem_list N j hjt] at hstep2
              have hbad : isHC N[j] = false → N.data.toList.all isHC = false := fun h => by
                rw [Bool.eq_false_iff]
                intro hall
                have := List.all_eq_true.1 hall N[j] (by rw [← getElem_list N j hjt]; exact List.getElem_mem _)
                rw [h] at this; cases this
              obtain ⟨c, hc⟩ : ∃ c, N[j] = c := ⟨_, rfl⟩
              have hcl := fun W => refLetter_any c W
              have hc2 : (N[j].toNat : Int) = (c.toNat : Int) := by rw [hc]
              rw [hc] at hstep2 hbad
              have hcs : (isHC c = true ∧ ((isLow c || isUp c || isDig c) = true ∨ ((isLow c || isUp c || isDig c) = false ∧ ((c.toNat : Int) != 45) = false) ∨ ((isLow c || isUp c || isDig c) = false ∧ ((c.toNat : Int) != 45) = true ∧ ((c.toNat : Int) != 46) = false))) ∨ (isHC c = false ∧ (isLow c || isUp c || isDig c) = false ∧ ((c.toNat : Int) != 45) = true ∧ ((c.toNat : Int) != 46) = true) := hc_ways c
              have HST := hid hstep2
              have HBD := hid hbad
              generalize (isLow c || isUp c || isDig c) = q at hcl hcs
              have CL := hid hcl
              clear hstep2 hbad hcl
              rcases hcs with ⟨hq, rfl | ⟨rfl, f1⟩ | ⟨rfl, f1, f2⟩⟩ | ⟨hq, rfl, f1, f2⟩
              · have HQ := hid hq
                clear hq
                go_wp2_with (go_at_call 78; with_reducible refine (CL.out _).mono ?_; rintro e w' ⟨rfl, rfl⟩)
                go_round
                case rel => exact ⟨j + 1, by omega, by go_num, by rw [HST.out, HP2.out, HQ.out]; rfl⟩
                case measure => simp [intOf]; omega
              · have HQ := hid hq
                clear hq
                go_wp2_with (go_at_call 78; with_reducible refine (CL.out _).mono ?_; rintro e w' ⟨rfl, rfl⟩)
                go_round
                case rel => exact ⟨j + 1, by omega, by go_num, by rw [HST.out, HP2.out, HQ.out]; rfl⟩
                case measure => simp [intOf]; omega
              · have HQ := hid hq
                clear hq
                go_wp2_with (go_at_call 78; with_reducible refine (CL.out _).mono ?_; rintro e w' ⟨rfl, rfl⟩)
                go_round
                case rel => exact ⟨j + 1, by omega, by go_num, by rw [HST.out, HP2.out, HQ.out]; rfl⟩
                case measure => simp [intOf]; omega
              · have hall := HBD.out hq
                have hn := hostN_none' (d := D.data.toList) (.inr (.inr hall))
                have HH := hid (HHN.out.trans hn)
                clear hq hall hn
                go_wp2_with (go_at_call 78; with_reducible refine (CL.out _).mono ?_; rintro e w' ⟨rfl, rfl⟩)
                go_ret2
                exact ⟨by rw [HH.out]; rfl, Below.refl _ _⟩
            · have fj : decide ((j : Int) < (N.size : Int)) = false := by rw [decide_eq_false_iff_not]; omega
              have hall : N.data.toList.all isHC = true := by
                have h := HP2.out
                rwa [take_all N j hjt] at h
              have hok : ¬ (N.data.toList = [] ∨ 40 < N.data.toList.length ∨ N.data.toList.all isHC = false) := by
                rw [size_list, hall]
                rintro (h | h | h)
                · exact HN1.out h
                · omega
                · cases h
              have cl := fun W => refLower_any N W (by omega)
              obtain ⟨LW, hLW⟩ : ∃ l, lowerL N.data.toList = l := ⟨_, rfl⟩
              have hLl : LW.length ≤ 40 := by rw [← hLW]; unfold lowerL; rw [List.length_map, size_list]; exact hNs
              have hH3 := HHN.out
              unfold hostN at hH3
              rw [if_neg hok, hLW] at hH3
              rw [hLW] at cl
              have CL := hid cl
              clear cl hLW hall hok HHN
              by_cases hd : D.data.toList = []
              · have hde : D.toList.isEmpty = true := by rw [Lib.toList_data, hd]; rfl
                have hdn : D.toList = [] := by rw [Lib.toList_data, hd]
                rw [if_pos hd] at hH3
                have HH := hid hH3
                clear hH3 hd
                go_wp2_with (go_at_call 79; refine (CL.out _).mono ?_; rintro e w1 ⟨rfl, hb1⟩)
                go_ret2
                exact ⟨by rw [HH.out]; rfl, hb1⟩
              · have hdn : ¬ D.toList = [] := by rw [Lib.toList_data]; exact hd
                have hde : D.toList.isEmpty = false := by rw [List.isEmpty_eq_false_iff]; exact hdn
                rw [if_neg hd] at hH3
                have cn := fun W => refNumber_any D W (by omega)
                by_cases hdig : D.data.toList.all isDig = true
                · have hnum : numberL D.data.toList = some (valL D.data.toList) := numL_small (by rw [size_list]; exact hDs) hdig hd
                  rw [hnum] at cn
                  have hv := val_lt (by rw [size_list]; exact hDs) hdig
                  rw [if_neg (by rw [size_list, hdig]; simp; omega)] at hH3
                  unfold portL at hH3
                  generalize valL D.data.toList = m at cn hv hH3
                  have cn' : ∀ W, Calls Tryz.prog 80 #[.string D] W fun e w' => e = .returned (.tuple #[.int .i64 (m : Int), .bool true]) ∧ W = w' := cn
                  have CN := hid cn'
                  by_cases h80 : m = 80
                  · have e80 : ((m : Int) == 80) = true := by rw [h80]; rfl
                    rw [if_pos h80, List.append_nil] at hH3
                    have HH := hid hH3
                    clear hH3 hd hdig hnum cn cn' h80
                    go_wp2_with (first
                      | (go_at_call 79; refine (CL.out _).mono ?_; rintro e w1 ⟨rfl, hb1⟩)
                      | (go_at_call 80; refine (CN.out _).mono ?_; rintro e w2 ⟨rfl, rfl⟩))
                    go_ret2
                    exact ⟨by rw [HH.out]; rfl, hb1⟩
                  · have e80 : ((m : Int) == 80) = false := by rw [beq_eq_false_iff_ne]; omega
                    rw [if_neg h80] at hH3
                    have cd := fun W => refDigits_any 4 m (m : Int) W rfl (by omega) (by decide)
                    obtain ⟨G, hG⟩ : ∃ G, digF 5 m = G := ⟨_, rfl⟩
                    have hGl : G.length ≤ 5 := by rw [← hG]; exact digF_len 5 m
                    have cd' : ∀ W, Calls Tryz.prog 81 #[.int .i64 (m : Int)] W fun e w' => e = .returned (strV G) ∧ Below W.heap.size W w' := by rw [← hG]; exact cd
                    rw [hG] at hH3
                    have s1 := fun W => run_string_add_lists (P := Tryz.prog) W LW [58] (by omega) (by simp)
                    have s2 := fun W => run_string_add_lists (P := Tryz.prog) W (LW ++ [58]) G (by simp; omega) (by omega)
                    obtain ⟨X, hX⟩ : ∃ X, LW ++ [58] = X := ⟨_, rfl⟩
                    rw [hX] at s1 s2
                    have s1' : ∀ W, (Op.stringOp BinOp.add ⟨LW.toArray⟩ ⟨#[58]⟩).run Tryz.prog W = .ok (.string ⟨X.toArray⟩) W := s1
                    have hXG : LW ++ 58 :: G = X ++ G := by rw [← hX]; simp
                    rw [hXG] at hH3
                    have HH := hid hH3
                    have CD := hid cd'
                    clear hH3 hd hdig hnum cn cn' h80 cd cd' hG s1 hX hXG
                    go_wp2_with (first
                      | (go_at_call 79; refine (CL.out _).mono ?_; rintro e w1 ⟨rfl, hb1⟩)
                      | (go_at_call 80; refine (CN.out _).mono ?_; rintro e w2 ⟨rfl, rfl⟩)
                      | (go_at_call 81; refine (CD.out _).mono ?_; rintro e w3 ⟨rfl, hb3⟩))
                    go_ret2
                    exact ⟨by rw [HH.out]; rfl, chainP hb1 hb3⟩
                · have hdf : D.data.toList.all isDig = false := by simpa using hdig
                  have hnum : numberL D.data.toList = none := by unfold numberL; rw [hdf]; rfl
                  rw [hnum] at cn
                  have cn' : ∀ W, Calls Tryz.prog 80 #[.string D] W fun e w' => e = .returned (.tuple #[.int .i64 0, .bool false]) ∧ W = w' := cn
                  rw [if_pos (.inr hdf)] at hH3
                  have HH := hid hH3
                  have CN := hid cn'
                  clear hH3 hd hdig hdf hnum cn cn'
                  go_wp2_with (go_at_call 80; refine (CN.out _).mono ?_; rintro e w2 ⟨rfl, rfl⟩)
                  go_ret2
                  exact ⟨by rw [HH.out]; rfl, Below.refl _ _⟩
      · have fq : ((s[k].toNat : Int) == 58) = false := by
          rw [← byte_beq s[k] 58 (z := 58) rfl]; simpa using hq
        have hstep := all_take_succ s.data.toList (fun x => x != 58) k (by rw [size_list]; exact hlt)
        rw [getElem_list s k hlt] at hstep
        have HS := hid hstep
        have HQ := hid hq
        clear hstep hq
        go_wp2_with fail
        go_round
        case rel => exact ⟨k + 1, E0, by omega, by go_num, by rw [HS.out, HP.out]; simpa using HQ.out, HE0.out, rfl, rfl⟩
        case measure => simp [intOf]; omega
    · have f1 : decide ((k : Int) < (s.size : Int)) = false := by rw [decide_eq_false_iff_not]; omega
      have hno := HNO.out
      rw [take_all s k hlt] at hno
      obtain ⟨b1, b2, b3⟩ := bef_none 58 hno
      have hHN : hostL s.data.toList = hostN s.data.toList E0.data.toList := by rw [hostL_eq, b1, b2, HE0.out]
      have HHN := hid hHN
      clear b1 b2 b3 hno hHN HNO HP
      have hH2 : hostL s.data.toList = hostN s.data.toList E0.data.toList := HHN.out
      by_cases g1 : s.size < 1 ∨ 40 < s.size ∨ 5 < E0.size
      · have hn := hostN_bad (n := s.data.toList) (d := E0.data.toList) (by rw [size_list, size_list]; exact g1)
        rw [hn] at hH2
        have HH := hid hH2
        have e : decide ((s.size : Int) < 1) = true ∨ (decide ((s.size : Int) < 1) = false ∧ decide ((40 : Int) < (s.size : Int)) = true) ∨ (decide ((s.size : Int) < 1) = false ∧ decide ((40 : Int) < (s.size : Int)) = false ∧ decide ((5 : Int) < (E0.size : Int)) = true) := by
          simp only [decide_eq_true_eq, decide_eq_false_iff_not]
          omega
        clear hn hH2 g1 HHN
        rcases e with e1 | ⟨e1, e2⟩ | ⟨e1, e2, e3⟩
        all_goals
          go_wp2_with fail
          go_ret2
          exact ⟨by rw [HH.out]; rfl, Below.refl _ _⟩
      · have a1 : decide ((s.size : Int) < 1) = false := by rw [decide_eq_false_iff_not]; omega
        have a2 : decide ((40 : Int) < (s.size : Int)) = false := by rw [decide_eq_false_iff_not]; omega
        have a3 : decide ((5 : Int) < (E0.size : Int)) = false := by rw [decide_eq_false_iff_not]; omega
        have hNs : s.size ≤ 40 := by omega
        have hDs : E0.size ≤ 5 := by omega
        have hN1 : s.data.toList ≠ [] := by
          intro h; have h2 := size_list s; rw [h] at h2; simp at h2; omega
        have HN1 := hid hN1
        clear g1 hN1 hH2
        go_wp2_with fail
        go_loop [7] (fun i => ∃ j : Nat, j ≤ s.size ∧ i = .int .i64 j ∧ ((s.data.toList.take j).all isHC) = true) (fun i => s.size - (intOf i).toNat)
        case atStart => exact ⟨0, Nat.zero_le _, rfl, rfl⟩
        case round =>
          obtain ⟨j, hj, rfl, hp2⟩ := hrel
          have HP2 := hid hp2
          clear hp2
          by_cases hjt : j < s.size
          · have fj : decide ((j : Int) < (s.size : Int)) = true := by simp; omega
            have hstep2 := all_take_succ s.data.toList isHC j (by rw [size_list]; exact hjt)
            rw [getElem_list s j hjt] at hstep2
            have hbad : isHC s[j] = false → s.data.toList.all isHC = false := fun h => by
              rw [Bool.eq_false_iff]
              intro hall
              have := List.all_eq_true.1 hall s[j] (by rw [← getElem_list s j hjt]; exact List.getElem_mem _)
              rw [h] at this; cases this
            obtain ⟨c, hc⟩ : ∃ c, s[j] = c := ⟨_, rfl⟩
            have hcl := fun W => refLetter_any c W
            have hc2 : (s[j].toNat : Int) = (c.toNat : Int) := by rw [hc]
            rw [hc] at hstep2 hbad
            have hcs : (isHC c = true ∧ ((isLow c || isUp c || isDig c) = true ∨ ((isLow c || isUp c || isDig c) = false ∧ ((c.toNat : Int) != 45) = false) ∨ ((isLow c || isUp c || isDig c) = false ∧ ((c.toNat : Int) != 45) = true ∧ ((c.toNat : Int) != 46) = false))) ∨ (isHC c = false ∧ (isLow c || isUp c || isDig c) = false ∧ ((c.toNat : Int) != 45) = true ∧ ((c.toNat : Int) != 46) = true) := hc_ways c
            have HST := hid hstep2
            have HBD := hid hbad
            generalize (isLow c || isUp c || isDig c) = q at hcl hcs
            have CL := hid hcl
            clear hstep2 hbad hcl
            rcases hcs with ⟨hq, rfl | ⟨rfl, f1⟩ | ⟨rfl, f1, f2⟩⟩ | ⟨hq, rfl, f1, f2⟩
            · have HQ := hid hq
              clear hq
              go_wp2_with (go_at_call 78; with_reducible refine (CL.out _).mono ?_; rintro e w' ⟨rfl, rfl⟩)
              go_round
              case rel => exact ⟨j + 1, by omega, by go_num, by rw [HST.out, HP2.out, HQ.out]; rfl⟩
              case measure => simp [intOf]; omega
            · have HQ := hid hq
              clear hq
              go_wp2_with (go_at_call 78; with_reducible refine (CL.out _).mono ?_; rintro e w' ⟨rfl, rfl⟩)
              go_round
              case rel => exact ⟨j + 1, by omega, by go_num, by rw [HST.out, HP2.out, HQ.out]; rfl⟩
              case measure => simp [intOf]; omega
            · have HQ := hid hq
              clear hq
              go_wp2_with (go_at_call 78; with_reducible refine (CL.out _).mono ?_; rintro e w' ⟨rfl, rfl⟩)
              go_round
              case rel => exact ⟨j + 1, by omega, by go_num, by rw [HST.out, HP2.out, HQ.out]; rfl⟩
              case measure => simp [intOf]; omega
            · have hall := HBD.out hq
              have hn := hostN_none' (d := E0.data.toList) (.inr (.inr hall))
              have HH := hid (HHN.out.trans hn)
              clear hq hall hn
              go_wp2_with (go_at_call 78; with_reducible refine (CL.out _).mono ?_; rintro e w' ⟨rfl, rfl⟩)
              go_ret2
              exact ⟨by rw [HH.out]; rfl, Below.refl _ _⟩
          · have fj : decide ((j : Int) < (s.size : Int)) = false := by rw [decide_eq_false_iff_not]; omega
            have hall : s.data.toList.all isHC = true := by
              have h := HP2.out
              rwa [take_all s j hjt] at h
            have hok : ¬ (s.data.toList = [] ∨ 40 < s.data.toList.length ∨ s.data.toList.all isHC = false) := by
              rw [size_list, hall]
              rintro (h | h | h)
              · exact HN1.out h
              · omega
              · cases h
            have cl := fun W => refLower_any s W (by omega)
            obtain ⟨LW, hLW⟩ : ∃ l, lowerL s.data.toList = l := ⟨_, rfl⟩
            have hLl : LW.length ≤ 40 := by rw [← hLW]; unfold lowerL; rw [List.length_map, size_list]; exact hNs
            have hH3 := HHN.out
            unfold hostN at hH3
            rw [if_neg hok, hLW] at hH3
            rw [hLW] at cl
            have CL := hid cl
            clear cl hLW hall hok HHN
            by_cases hd : E0.data.toList = []
            · have hde : E0.toList.isEmpty = true := by rw [Lib.toList_data, hd]; rfl
              have hdn : E0.toList = [] := by rw [Lib.toList_data, hd]
              rw [if_pos hd] at hH3
              have HH := hid hH3
              clear hH3 hd
              go_wp2_with (go_at_call 79; refine (CL.out _).mono ?_; rintro e w1 ⟨rfl, hb1⟩)
              go_ret2
              exact ⟨by rw [HH.out]; rfl, hb1⟩
            · have hdn : ¬ E0.toList = [] := by rw [Lib.toList_data]; exact hd
              have hde : E0.toList.isEmpty = false := by rw [List.isEmpty_eq_false_iff]; exact hdn
              rw [if_neg hd] at hH3
              have cn := fun W => refNumber_any E0 W (by omega)
              by_cases hdig : E0.data.toList.all isDig = true
              · have hnum : numberL E0.data.toList = some (valL E0.data.toList) := numL_small (by rw [size_list]; exact hDs) hdig hd
                rw [hnum] at cn
                have hv := val_lt (by rw [size_list]; exact hDs) hdig
                rw [if_neg (by rw [size_list, hdig]; simp; omega)] at hH3
                unfold portL at hH3
                generalize valL E0.data.toList = m at cn hv hH3
                have cn' : ∀ W, Calls Tryz.prog 80 #[.string E0] W fun e w' => e = .returned (.tuple #[.int .i64 (m : Int), .bool true]) ∧ W = w' := cn
                have CN := hid cn'
                by_cases h80 : m = 80
                · have e80 : ((m : Int) == 80) = true := by rw [h80]; rfl
                  rw [if_pos h80, List.append_nil] at hH3
                  have HH := hid hH3
                  clear hH3 hd hdig hnum cn cn' h80
                  go_wp2_with (first
                    | (go_at_call 79; refine (CL.out _).mono ?_; rintro e w1 ⟨rfl, hb1⟩)
                    | (go_at_call 80; refine (CN.out _).mono ?_; rintro e w2 ⟨rfl, rfl⟩))
                  go_ret2
                  exact ⟨by rw [HH.out]; rfl, hb1⟩
                · have e80 : ((m : Int) == 80) = false := by rw [beq_eq_false_iff_ne]; omega
                  rw [if_neg h80] at hH3
                  have cd := fun W => refDigits_any 4 m (m : Int) W rfl (by omega) (by decide)
                  obtain ⟨G, hG⟩ : ∃ G, digF 5 m = G := ⟨_, rfl⟩
                  have hGl : G.length ≤ 5 := by rw [← hG]; exact digF_len 5 m
                  have cd' : ∀ W, Calls Tryz.prog 81 #[.int .i64 (m : Int)] W fun e w' => e = .returned (strV G) ∧ Below W.heap.size W w' := by rw [← hG]; exact cd
                  rw [hG] at hH3
                  have s1 := fun W => run_string_add_lists (P := Tryz.prog) W LW [58] (by omega) (by simp)
                  have s2 := fun W => run_string_add_lists (P := Tryz.prog) W (LW ++ [58]) G (by simp; omega) (by omega)
                  obtain ⟨X, hX⟩ : ∃ X, LW ++ [58] = X := ⟨_, rfl⟩
                  rw [hX] at s1 s2
                  have s1' : ∀ W, (Op.stringOp BinOp.add ⟨LW.toArray⟩ ⟨#[58]⟩).run Tryz.prog W = .ok (.string ⟨X.toArray⟩) W := s1
                  have hXG : LW ++ 58 :: G = X ++ G := by rw [← hX]; simp
                  rw [hXG] at hH3
                  have HH := hid hH3
                  have CD := hid cd'
                  clear hH3 hd hdig hnum cn cn' h80 cd cd' hG s1 hX hXG
                  go_wp2_with (first
                    | (go_at_call 79; refine (CL.out _).mono ?_; rintro e w1 ⟨rfl, hb1⟩)
                    | (go_at_call 80; refine (CN.out _).mono ?_; rintro e w2 ⟨rfl, rfl⟩)
                    | (go_at_call 81; refine (CD.out _).mono ?_; rintro e w3 ⟨rfl, hb3⟩))
                  go_ret2
                  exact ⟨by rw [HH.out]; rfl, chainP hb1 hb3⟩
              · have hdf : E0.data.toList.all isDig = false := by simpa using hdig
                have hnum : numberL E0.data.toList = none := by unfold numberL; rw [hdf]; rfl
                rw [hnum] at cn
                have cn' : ∀ W, Calls Tryz.prog 80 #[.string E0] W fun e w' => e = .returned (.tuple #[.int .i64 0, .bool false]) ∧ W = w' := cn
                rw [if_pos (.inr hdf)] at hH3
                have HH := hid hH3
                have CN := hid cn'
                clear hH3 hd hdig hdf hnum cn cn'
                go_wp2_with (go_at_call 80; refine (CN.out _).mono ?_; rintro e w2 ⟨rfl, rfl⟩)
                go_ret2
                exact ⟨by rw [HH.out]; rfl, Below.refl _ _⟩
end Go.Proofs.YtenijpcjemdhfaaGreatDoor

/-
  The walks of the statements of layer 1: SignNumbers, SignQuotes, SignLists.
-/
import Derived.Test.YtonbhaimdfpkpaaDoorLaw01W
import Derived.Test.YtonbhaimdfpkpaaDoorPureEsc
namespace Go.Proofs.YtonbhaimdfpkpaaDoor
open Go.RowKit Go.Pantry

theorem numberL_le (l : List UInt8) : (numberL l).getD 0 ≤ 2147483648 := by
  unfold numberL
  split
  · simp; omega
  · simp

theorem signNumbers_walk (s : ByteArray) (w : World) (hs : s.size ≤ maxLen) :
    Calls Tryd.prog 7 #[.string s] w fun e w' => e = .returned (.bool true) ∧ Below w.heap.size w w' := by
  unfold maxLen at hs
  by_cases h1 : 1000 < (s.size : Int)
  · go_enter Tryd.func7, Tryd.ntmps7
    go_wp2_with (go_at_call 11; refine (anchor_any _).mono ?_; rintro e w1 ⟨rfl, HB⟩)
    go_ret
    exact ⟨rfl, HB⟩
  · have hle := numberL_le s.data.toList
    obtain ⟨m, hm⟩ : ∃ m, (numberL s.data.toList).getD 0 = m := ⟨_, rfl⟩
    rw [hm] at hle
    have c1 := fun w => Number_any s w (by omega)
    have c2 := fun w => refNumber_any s w (by omega)
    rw [hm] at c1 c2
    have C1 := hid c1
    have C2 := hid c2
    clear hm c1 c2
    go_enter Tryd.func7, Tryd.ntmps7
    go_wp2_with (first
        | (go_at_call 11; refine (anchor_any _).mono ?_; rintro e w1 ⟨rfl, HB⟩)
        | (go_at_call 24; go_must (refine (C1.out _).mono ?_); rintro e w' ⟨rfl, rfl⟩)
        | (go_at_call 25; go_must (refine (C2.out _).mono ?_); rintro e w' ⟨rfl, rfl⟩))
    go_ret
    exact ⟨ret_bool (by simp; omega), HB⟩

theorem signLists_walk (s : ByteArray) (w : World) (hs : s.size ≤ maxLen) :
    Calls Tryd.prog 4 #[.string s] w fun e w' => e = .returned (.bool true) ∧ Below w.heap.size w w' := by
  unfold maxLen at hs
  by_cases h1 : 1000 < (s.size : Int)
  · go_enter Tryd.func4, Tryd.ntmps4
    go_wp2_with (go_at_call 11; refine (anchor_any _).mono ?_; rintro e w1 ⟨rfl, HB⟩)
    go_ret
    exact ⟨rfl, HB⟩
  · have c2 := fun w => refList_any s w (by omega)
    have hall := listL_good s.data.toList
    have hn := listL_len s.data.toList
    have hz := listL_size s.data.toList
    rw [size_list] at hn hz
    have c1 := fun w => List_any s w (by omega)
    obtain ⟨L, hL⟩ : ∃ L, listL s.data.toList = L := ⟨_, rfl⟩
    rw [hL] at c1 c2 hall hn hz
    have C1 := hid c1
    have C2 := hid c2
    have HA := hid hall
    have HZ := hid hz
    clear hL c1 c2 hall hz
    go_enter Tryd.func4, Tryd.ntmps4
    go_wp2_with (first
        | (go_at_call 11; refine (anchor_any _).mono ?_; rintro e w1 ⟨rfl, HB⟩)
        | (go_at_call 19; go_must (refine (C1.out _).mono ?_); rintro e w2 ⟨v, rfl, ho, hb⟩; replace HB := chain HB hb; clear hb; have hr := ho.reads; clear ho; have HR := hid hr; obtain ⟨ao, cap, rfl, hc, -⟩ := hr; have HC := hid hc; clear hc; simp only [List.length_map] at HR ⊢))
    go_loopw [15] (fun i wr => ∃ k : Nat, k ≤ L.length ∧ i = .int .i64 k ∧ Below w2.heap.size w2 wr) (fun i _ => L.length - (intOf i).toNat)
    case atStart => exact ⟨0, Nat.zero_le _, rfl, Below.refl _ _⟩
    case round =>
      obtain ⟨k, hk, rfl, hbr⟩ := hrel
      by_cases hlt : k < L.length
      · obtain ⟨x, hx⟩ : ∃ x, L[k]? = some x := ⟨_, List.getElem?_eq_getElem hlt⟩
        obtain ⟨b, off, ha, hcell⟩ := HC.out k (strV x) (by simp [hx])
        subst ha
        have hcw := (hbr.cell (p := ⟨b, off + k, none⟩) (World.block_lt_of_cell? w2 _ hcell)).trans hcell
        obtain ⟨hne, htr⟩ := HA.out x (List.mem_of_getElem? hx)
        have hxl := HZ.out x (List.mem_of_getElem? hx)
        clear hx hcell
        go_wp2_with (go_at_call 16; go_must (refine (Trim_any _ _ (by unfold maxLen; simp [ByteArray.size]; omega)).mono ?_); rintro e w3 ⟨rfl, hb3⟩; replace hbr := chain hbr hb3; clear hb3)
        · exfalso
          have h : x.isEmpty = true := by assumption
          exact hne (by simpa using h)
        · go_roundw
          case rel => exact ⟨k + 1, by omega, by go_num, hbr⟩
          case measure => simp [intOf]; omega
      · have HB' := chain HB hbr
        have HR' := HR.out.below hbr
        clear HB HR
        go_wp2_with fail
        refine (C2.out _).mono ?_
        rintro e w3 ⟨v, rfl, ho, hb⟩
        replace HB' := chain HB' hb
        have hr := ho.reads
        replace HR' := HR'.below hb
        clear ho
        go_wp2_with fail
        refine (same_any _ _ L L _ HR' hr (by omega)).mono ?_
        rintro e w4 ⟨rfl, rfl⟩
        go_wp2_with fail
        go_ret
        exact ⟨ret_bool (by simp), HB'⟩

theorem str_add (a b : List UInt8) : (⟨a.toArray⟩ : ByteArray) ++ ⟨b.toArray⟩ = ⟨(a ++ b).toArray⟩ := by rw [ByteArray.mk_append_mk]
theorem extract_one (s : ByteArray) (k : Nat) (h : k < s.size) : s.extract k (k + 1) = ⟨([s[k]] : List UInt8).toArray⟩ := by
  rw [Lib.extract_eq, show k + 1 - k = 1 by omega, drop_cons s k h]; rfl

theorem signQuotes_walk (s : ByteArray) (w : World) (hs : s.size ≤ maxLen) :
    Calls Tryd.prog 6 #[.string s] w fun e w' => e = .returned (.bool true) ∧ Below w.heap.size w w' := by
  unfold maxLen at hs
  by_cases h1 : 1000 < (s.size : Int)
  · go_enter Tryd.func6, Tryd.ntmps6
    go_wp2_with (go_at_call 11; refine (anchor_any _).mono ?_; rintro e w1 ⟨rfl, HB⟩)
    go_ret
    exact ⟨rfl, HB⟩
  · go_enter Tryd.func6, Tryd.ntmps6
    go_wp2_with (first
        | (go_at_call 11; refine (anchor_any _).mono ?_; rintro e w1 ⟨rfl, HB⟩)
        | (go_at_call 22; go_must (refine (Unquote_any _ _ (by omega)).mono ?_); rintro e w2 ⟨rfl, hb⟩; replace HB := chain HB hb; clear hb)
        | (go_at_call 23; go_must (refine (refUnquote_any _ _ (by omega)).mono ?_); rintro e w2 ⟨rfl, hb⟩; replace HB := chain HB hb; clear hb))
    go_loop [7, 36] (fun q i => ∃ k : Nat, k ≤ s.size ∧ i = .int .i64 k ∧ q = strV (34 :: esc (s.data.toList.take k))) (fun _ i => s.size - (intOf i).toNat)
    case atStart => exact ⟨0, Nat.zero_le _, rfl, rfl⟩
    case round =>
      obtain ⟨k, hk, rfl, rfl⟩ := hrel
      have hql : (34 :: esc (s.data.toList.take k)).length ≤ 2001 := by
        have := esc_len (s.data.toList.take k)
        rw [List.length_take] at this
        simp; omega
      by_cases hlt : k < s.size
      · have he := extract_one s k hlt
        have HE := hid he
        clear he
        obtain ⟨l, hl⟩ : ∃ l, 34 :: esc (s.data.toList.take k) = l := ⟨_, rfl⟩
        rw [hl] at hql ⊢
        have HL := hid hl
        clear hl
        have hst : 34 :: esc (s.data.toList.take (k + 1)) = l ++ escC s[k] := by
          rw [take_succ_list s k hlt, esc_snoc, ← HL.out]; rfl
        have HS := hid hst
        clear hst
        go_wp2
        all_goals first
          | (exfalso; omega)
          | (have hq : escC s[k] = [92, s[k]] := by
               have h : (s[k].toNat : Int) = 34 ∨ ((s[k].toNat : Int) == 34) = true ∨ ((s[k].toNat : Int) == 92) = true := by first | exact .inl (by assumption) | exact .inr (by assumption)
               unfold escC
               rw [if_pos]
               rcases h with h | h | h
               · exact .inl (UInt8.toNat_inj.1 (by simp; omega))
               · exact .inl (byte_yes 34 h rfl)
               · exact .inr (byte_yes 92 h rfl)
             go_round
             case rel =>
               refine ⟨k + 1, by omega, by go_num, ?_⟩
               rw [HE.out, HS.out, hq, show (⟨#[92]⟩ : ByteArray) = ⟨([92] : List UInt8).toArray⟩ from rfl, str_add, str_add]; simp
             case measure => simp [intOf]; omega)
          | (have hq : escC s[k] = [s[k]] := by
               have h : ((s[k].toNat : Int) == 34) = false ∧ ((s[k].toNat : Int) == 92) = false := by assumption
               unfold escC
               rw [if_neg]
               intro e
               rcases e with e | e
               · exact byte_no 34 h.1 rfl e
               · exact byte_no 92 h.2 rfl e
             go_round
             case rel =>
               refine ⟨k + 1, by omega, by go_num, ?_⟩
               rw [HE.out, HS.out, hq, str_add]
             case measure => simp [intOf]; omega)
      · have HT := hid (take_all s k hlt)
        have hun := unquote_esc s.data.toList
        obtain ⟨l, hl⟩ : ∃ l, 34 :: esc (s.data.toList.take k) = l := ⟨_, rfl⟩
        have hun2 : unquoteL (l ++ [34]) = some s.data.toList := by
          rw [← hl, take_all s k hlt]; exact hun
        rw [hl] at hql ⊢
        have HU := hid hun2
        clear hl hun hun2
        have hadd := fun (W : World) => run_string_add_lists (P := Tryd.prog) W l [34] (by omega) (by simp)
        go_wp2_with fail
        refine (Unquote_any _ _ (by simp [ByteArray.size]; omega)).mono ?_
        have e : (⟨(l ++ [34]).toArray⟩ : ByteArray).data.toList = l ++ [34] := by simp
        rw [e, HU.out]
        rintro e w3 ⟨rfl, hb⟩
        replace HB := chain HB hb
        go_wp2_with fail
        go_ret
        exact ⟨ret_bool (by simp), HB⟩
end Go.Proofs.YtonbhaimdfpkpaaDoor

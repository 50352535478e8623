/-
  The walk of the statement SignJoins.
-/
import Derived.Test.YtonbhaimdfpkpaaDoorLaw01W
import Derived.Test.YtonbhaimdfpkpaaDoorPureTwo
namespace Go.Proofs.YtonbhaimdfpkpaaDoor
open Go.RowKit Go.Pantry

/-- The elements that are left of some texts. -/
def wantL (l : List (List UInt8)) : List (List UInt8) := (l.map trimL).filter (· ≠ [])
theorem wantL_snoc (l : List (List UInt8)) (x : List UInt8) : wantL (l ++ [x]) = wantL l ++ (if trimL x = [] then [] else [trimL x]) := by
  unfold wantL
  rw [List.map_append, List.filter_append]
  congr 1
  by_cases h : trimL x = [] <;> simp [h]
theorem wantL_len (l : List (List UInt8)) : (wantL l).length ≤ l.length := by
  unfold wantL
  have := List.length_filter_le (· ≠ []) (l.map trimL)
  simpa using this
/-- What the joined text is good for. -/
structure Joined (k : Nat) (j : List UInt8) (want : List (List UInt8)) : Prop where
  first : k = 0 → j = []
  list : listL j = want
  plain : (34 : UInt8) ∉ j
  short : j.length ≤ 110 * k
theorem joined_next {k : Nat} {j : List UInt8} {want : List (List UInt8)} (h : Joined k j want) (p x : List UInt8) (hp : p = [] ∨ p = [32, 9]) (hx : ∀ c ∈ x, c ≠ 44 ∧ c ≠ 34) (hl : x.length ≤ 100) :
    Joined (k + 1) (j ++ ((if k = 0 then [] else [44]) ++ (p ++ x))) (want ++ if trimL x = [] then [] else [trimL x]) := by
  have hpx : trimL (p ++ x) = trimL x := by
    rcases hp with rfl | rfl
    · rfl
    · show trimL (32 :: 9 :: x) = _
      rw [trim_blank _ _ (by decide), trim_blank _ _ (by decide)]
  have hpl : ∀ c ∈ p ++ x, c ≠ 44 ∧ c ≠ 34 := by
    intro c hc
    rcases List.mem_append.1 hc with hc | hc
    · rcases hp with rfl | rfl
      · simp at hc
      · simp at hc; rcases hc with rfl | rfl <;> decide
    · exact hx c hc
  have h1 : listL (p ++ x) = if trimL x = [] then [] else [trimL x] := by rw [listL_one _ hpl, hpx]
  have hpl2 : p.length ≤ 2 := by rcases hp with rfl | rfl <;> simp
  have h34 : (34 : UInt8) ∉ p ++ x := fun hc => (hpl _ hc).2 rfl
  by_cases hk : k = 0
  · have hj := h.first hk
    have hw := h.list
    rw [hj, listL_nil] at hw
    subst hw
    rw [if_pos hk, hj]
    exact ⟨fun e => by omega, by simpa using h1, by simpa using h34, by simp; omega⟩
  · rw [if_neg hk]
    refine ⟨fun e => by omega, ?_, ?_, ?_⟩
    · rw [List.cons_append, List.nil_append, listL_two _ _ _ (Nat.le_refl _) h.plain, h.list, h1]
    · intro hc
      rcases List.mem_append.1 hc with hc | hc
      · exact h.plain hc
      · rcases List.mem_cons.1 hc with hc | hc
        · exact absurd hc (by decide)
        · exact h34 hc
    · have := h.short
      simp; omega

set_option maxRecDepth 100000 in
theorem signJoins_walk (v0 : Value) (l : List (List UInt8)) (v1 : Value) (zs : List Int) (w : World) (h0 : Reads w v0 (l.map strV) ∧ (∀ x ∈ l, x.length ≤ maxLen) ∧ l.length ≤ maxLen)
    (h1 : Reads w v1 (zs.map (Value.int .i64)) ∧ (∀ x ∈ zs, (Lit.int .i64 x).wf = true) ∧ zs.length ≤ maxLen) :
    Calls Tryd.prog 5 #[v0, v1] w fun e w' => e = .returned (.bool true) ∧ Below w.heap.size w w' := by
  obtain ⟨⟨a0, c0, rfl, hc0, -⟩, hx0, hl0⟩ := h0
  obtain ⟨⟨a1, c1, rfl, hc1, -⟩, -, hl1⟩ := h1
  simp only [List.length_map]
  unfold maxLen at hl0 hl1
  have HC0 := hid hc0
  have HC1 := hid hc1
  have HX := hid hx0
  clear hc0 hc1 hx0
  by_cases hbig : 40 < (l.length : Int)
  · go_enter Tryd.func5, Tryd.ntmps5
    go_wp2_with (go_at_call 11; refine (anchor_any _).mono ?_; rintro e w1 ⟨rfl, HB⟩)
    go_ret
    exact ⟨rfl, HB⟩
  · go_enter Tryd.func5, Tryd.ntmps5
    go_wp2_with (go_at_call 11; refine (anchor_any _).mono ?_; rintro e w1 ⟨rfl, HB⟩)
    have hBs := HB.size
    go_loopw [5, 6, 18] (fun s v i wr => ∃ (k : Nat) (j : List UInt8), k ≤ l.length ∧ i = .int .i64 k ∧ s = strV j ∧ Joined k j (wantL (l.take k)) ∧ wr.ownsRow w1.heap.size 9 1 v (wantL (l.take k)).length ((wantL (l.take k)).map strV) ∧ Below w1.heap.size w1 wr) (fun _ _ i _ => l.length - (intOf i).toNat)
    case atStart => exact ⟨0, [], Nat.zero_le _, rfl, rfl, ⟨fun _ => rfl, rfl, by simp, by simp⟩, World.ownsRow_nil _ _ _ _, Below.refl _ _⟩
    case round =>
      obtain ⟨k, j, hk, rfl, rfl, hj, hown, hbr⟩ := hrel
      have HJ := hid hj
      have hjl := hj.short
      clear hj
      have hB := hbr.size
      have hBw := HB.trans (hbr.mono hBs)
      by_cases hlt : k < l.length
      · obtain ⟨x, hx⟩ : ∃ x, l[k]? = some x := ⟨_, List.getElem?_eq_getElem hlt⟩
        obtain ⟨b0, o0, ha0, hcell⟩ := HC0.out k (strV x) (by simp [hx])
        subst ha0
        have hcw := (hBw.cell (p := ⟨b0, o0 + k, none⟩) (World.block_lt_of_cell? w _ hcell)).trans hcell
        obtain ⟨e, he⟩ : ∃ e : ByteArray, (⟨x.toArray⟩ : ByteArray) = e := ⟨_, rfl⟩
        have hex : e.data.toList = x := by rw [← he]
        rw [strV, he] at hcw
        have HXK := hid hx
        have HE := hid hex
        clear hx hcell he hex
        by_cases hlong : 100 < (e.size : Int)
        · go_wp2
          go_ret
          exact ⟨rfl, hBw⟩
        · go_wp2
          go_loop [28] (fun i => ∃ m : Nat, m ≤ e.size ∧ i = .int .i64 m ∧ ∀ c ∈ e.data.toList.take m, c ≠ 44 ∧ c ≠ 34) (fun i => e.size - (intOf i).toNat)
          case atStart => exact ⟨0, Nat.zero_le _, rfl, by simp⟩
          case round =>
            obtain ⟨m, hm, rfl, hpl⟩ := hrel
            have HP := hid hpl
            clear hpl
            by_cases hlm : m < e.size
            · go_wp2
              · go_ret
                exact ⟨rfl, hBw⟩
              · go_ret
                exact ⟨rfl, hBw⟩
              · go_round
                case rel =>
                  refine ⟨m + 1, by omega, by go_num, ?_⟩
                  rw [take_succ_list e m hlm]
                  intro c hc
                  rcases List.mem_append.1 hc with hc | hc
                  · exact HP.out c hc
                  · rw [List.mem_singleton.1 hc]
                    have h : ((e[m].toNat : Int) == 44) = false ∧ ((e[m].toNat : Int) == 34) = false := by first | assumption | exact ⟨by assumption, by assumption⟩ | simp_all
                    exact ⟨byte_no 44 h.1 rfl, byte_no 34 h.2 rfl⟩
                case measure => simp [intOf]; omega
            · have hxp : Hid (∀ c ∈ x, c ≠ 44 ∧ c ≠ 34) := by
                intro c hc
                rw [← HE.out] at hc
                exact HP.out c (by rw [take_all e m hlm]; exact hc)
              clear HP
              have hblank : ∃ p : List UInt8, (p = [] ∨ p = [32, 9]) ∧ ((p = [] ∧ ¬ k < zs.length) ∨ ∃ z b1 o1, a1 = some ⟨b1, o1, none⟩ ∧ k < zs.length ∧ wr.cell? ⟨b1, o1 + k, none⟩ = some (.int .i64 z) ∧ ((p = [] ∧ (z.tmod 3 == 1) = false) ∨ (p = [32, 9] ∧ (z.tmod 3 == 1) = true))) := by
                by_cases hz : k < zs.length
                · obtain ⟨z, hzz⟩ : ∃ z, zs[k]? = some z := ⟨_, List.getElem?_eq_getElem hz⟩
                  obtain ⟨b1, o1, ha1, hcell1⟩ := HC1.out k (.int .i64 z) (by simp [hzz])
                  have hcw1 := (hBw.cell (p := ⟨b1, o1 + k, none⟩) (World.block_lt_of_cell? w _ hcell1)).trans hcell1
                  cases hb : (z.tmod 3 == 1) with
                  | false => exact ⟨[], .inl rfl, .inr ⟨z, b1, o1, ha1, hz, hcw1, .inl ⟨rfl, hb⟩⟩⟩
                  | true => exact ⟨[32, 9], .inr rfl, .inr ⟨z, b1, o1, ha1, hz, hcw1, .inr ⟨rfl, hb⟩⟩⟩
                · exact ⟨[], .inl rfl, .inl ⟨rfl, hz⟩⟩
              obtain ⟨p, hp, hcase⟩ := hblank
              have HN := hid (joined_next HJ.out p x hp hxp.out (by rw [← HE.out, size_list]; omega))
              have hW := wantL_snoc (l.take k) x
              have hW2 : Hid (wantL (l.take (k + 1)) = wantL (l.take k) ++ if trimL x = [] then [] else [trimL x]) := by
                show _ = _
                rw [List.take_add_one, HXK.out]; exact hW
              have hwl : (wantL (l.take k)).length ≤ k := by
                have := wantL_len (l.take k)
                rw [List.length_take] at this; omega
              clear hxp hW hp
              obtain ⟨t, ht⟩ : ∃ t, trimL x = t := ⟨_, rfl⟩
              have hct := fun w => refTrim_any e w (by unfold maxLen; omega)
              rw [HE.out, ht] at hct
              rw [ht] at HN hW2
              have HT := hid hct
              clear hct ht
              have hkk : (¬ k = 0 ∧ 0 < k) ∨ (k = 0 ∧ ¬ 0 < k) := by omega
              rcases hkk with ⟨hk0, hkp⟩ | ⟨hk0, hkp⟩
              all_goals
                have HK0 := hid hk0
                clear hk0
                rcases hcase with ⟨rfl, hz⟩ | ⟨z, b1, o1, rfl, hz, hcw1, ⟨rfl, hb⟩ | ⟨rfl, hb⟩⟩
              all_goals
                go_wp2_with (first
                  | (go_at_call 17; go_must (refine (HT.out _).mono ?_); rintro e2 w2 ⟨rfl, rfl⟩)
                  | (at_builtin; go_must (refine wpList_append_one _ rfl _ _ 26 rfl w1.heap.size 9 Tryd.underlying26 infoStr rfl (by decide) rfl hown rfl rfl (by omega) hB ?_); intro v' w3 hown3 hg3 hb3))
              all_goals
                go_roundw
                case rel =>
                  have hN := HN.out
                  first | rw [if_neg HK0.out] at hN | rw [if_pos HK0.out] at hN
                  first
                    | (have ht : t ≠ [] := not_empty (by assumption)
                       rw [if_neg ht] at hN
                       have hw := hW2.out
                       rw [if_neg ht] at hw
                       rw [← hw] at hN
                       refine ⟨k + 1, _, by omega, by go_num, ?_, hN, by rw [hw]; simpa using hown3, hbr.trans hb3⟩
                       exact congrArg Value.string (bytes_ext (by simp [HE.out])))
                    | (have ht : t = [] := is_empty (by assumption)
                       rw [if_pos ht] at hN
                       have hw := hW2.out
                       rw [if_pos ht] at hw
                       rw [← hw] at hN
                       refine ⟨k + 1, _, by omega, by go_num, ?_, hN, by rw [hw]; simpa using hown, hbr⟩
                       exact congrArg Value.string (bytes_ext (by simp [HE.out])))
                case measure => simp [intOf]; omega
      · have hkl : k = l.length := by omega
        have hall : l.take k = l := List.take_of_length_le (by omega)
        rw [hall] at hown HJ
        have hwl := wantL_len l
        have hlist := HJ.out.list
        have hjl2 : j.length ≤ 4400 := by have := HJ.out.short; omega
        have HLI := hid hlist
        clear hlist hkl hall
        go_wp2_with fail
        refine (List_any _ _ (by simp [ByteArray.size]; omega)).mono ?_
        have ej : (⟨j.toArray⟩ : ByteArray).data.toList = j := by simp
        rw [ej, HLI.out]
        rintro e w3 ⟨v3, rfl, ho3, hb3⟩
        have hr3 := ho3.reads
        have hr := (hown.below hb3).reads
        have hBw3 := chain hBw hb3
        clear ho3 hown
        go_wp2_with fail
        refine (same_any _ _ _ _ _ hr3 hr (by omega)).mono ?_
        rintro e w4 ⟨rfl, rfl⟩
        go_wp2_with fail
        go_ret
        exact ⟨ret_bool (by simp), hBw3⟩
end Go.Proofs.YtonbhaimdfpkpaaDoor

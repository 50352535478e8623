/-
  Contract of strings.IndexAny at "/?", whatever the text.
-/
import Derived.Test.YthokpbpnecdgpaaGreatDoorPlaceB
namespace Go.Pantry
open Go.RowKit
/-- the first slash or question mark, or -1 -/
def sqZ (l : List UInt8) : Int := if l.any isSQ then ((apartH l).length : Int) else -1
theorem sqZ_cons (c : UInt8) (l : List UInt8) : sqZ (c :: l) = if isSQ c then 0 else if sqZ l == -1 then -1 else sqZ l + 1 := by
  unfold sqZ apartH
  rw [List.any_cons]
  cases hc : isSQ c with
  | true => rw [List.takeWhile_cons_of_neg (by simp [hc])]; simp
  | false =>
    rw [List.takeWhile_cons_of_pos (by simp [hc])]
    cases ha : l.any isSQ with
    | true =>
      simp <;> omega
    | false => simp
theorem sqZ_lib : ∀ l : List UInt8, Lib.indexAny l [47, 63] = sqZ l
  | [] => rfl
  | c :: l => by
    have h : ([47, 63] : List UInt8).contains c = isSQ c := by
      unfold isSQ
      rw [List.contains_cons, List.contains_cons]
      simp
    rw [Lib.indexAny, h, sqZ_lib l, sqZ_cons]
theorem sqZ_none {l : List UInt8} (h : l.all (fun c => !isSQ c) = true) : sqZ l = -1 := by
  unfold sqZ
  rw [if_neg]
  rw [List.any_eq_true]
  rintro ⟨c, hc, h2⟩
  have := List.all_eq_true.1 h c hc
  simp [h2] at this
theorem sqZ_hit {l : List UInt8} {pos : Nat} {c : UInt8} (h : (l.take pos).all (fun c => !isSQ c) = true) (hp : l[pos]? = some c) (hc : isSQ c = true) : sqZ l = (pos : Int) := by
  obtain ⟨hlt, hg⟩ := List.getElem?_eq_some_iff.1 hp
  have hd : l = l.take pos ++ c :: l.drop (pos + 1) := by
    have h3 := List.drop_eq_getElem_cons hlt
    rw [hg] at h3
    rw [← h3, List.take_append_drop]
  have ha := apart_at (a := l.take pos) (r := c :: l.drop (pos + 1)) (fun d hd => by
    have := List.all_eq_true.1 h d hd
    simpa using this) (fun d hd => by cases hd; exact hc)
  rw [← hd] at ha
  unfold sqZ
  rw [if_pos (List.any_eq_true.2 ⟨c, List.mem_of_getElem? hp, hc⟩), ha.1, List.length_take]
  omega
end Go.Pantry
namespace Go.Proofs.YthokpbpnecdgpaaGreatDoor
open Go.RowKit Go.Pantry

theorem decode_max (s : ByteArray) (pos : Nat) : (Utf8.decode s pos).1 ≤ 1114111 := by
  unfold Utf8.decode
  simp only
  have hv : ∀ c : Nat, Utf8.valid (c : Int) = true → c ≤ 1114111 := fun c hc => by
    unfold Utf8.valid at hc
    simp only [Bool.or_eq_true, Bool.and_eq_true, decide_eq_true_eq] at hc
    omega
  have he : Utf8.runeError ≤ 1114111 := by decide
  split
  · rename_i h; show (s.get! (pos + 0)).toNat ≤ 1114111; omega
  · split
    · split
      · rename_i h; show _ * 64 + _ % 64 ≤ 1114111; omega
      · exact he
    · split
      · split
        · rename_i h
          simp only [Bool.and_eq_true] at h
          exact hv _ h.2
        · exact he
      · split
        · split
          · rename_i h
            simp only [Bool.and_eq_true] at h
            exact hv _ h.2
          · exact he
        · exact he
theorem decode_bound (s : ByteArray) (pos : Nat) (h : pos < s.size) (ha : 128 ≤ (s[pos]'h).toNat) : 128 ≤ (Utf8.decode s pos).1 ∧ (Utf8.decode s pos).1 ≤ 1114111 := by
  obtain ⟨hd1, hd2⟩ := decode_high s pos h (by omega)
  exact ⟨by omega, decode_max s pos⟩
set_option maxRecDepth 100000 in
theorem anyShort (s : ByteArray) (w : World) (hs : s.size ≤ 8) :
    Calls Tryz.prog 27 #[.string s, .string sq] w fun e w' => e = .returned (.int .i64 (sqZ s.data.toList)) ∧ Below w.heap.size w w' := by
  obtain ⟨R, hR⟩ : ∃ R, sqZ s.data.toList = R := ⟨_, rfl⟩
  rw [hR]
  have HR := hid hR
  clear hR
  obtain ⟨S, hS⟩ : ∃ S, sq = S := ⟨_, rfl⟩
  have hsz : S.size = 2 := by rw [← hS]; rfl
  have hemp : S.toList.isEmpty = false := by rw [← hS]; decide +kernel
  have cw := fun r W => rune_wide r W
  have ca := fun (c : UInt8) (W : World) (h : c.toNat < 128) => Tryz.strings_IndexRune_ascii sq (c.toNat : Int) W (by omega) (by omega)
  have hix : ∀ c : UInt8, decide (0 ≤ Lib.indexByte sq.data.toList ((c.toNat : Int)).toNat.toUInt8) = isSQ c := by
    intro c
    rw [show ((c.toNat : Int)).toNat.toUInt8 = c from by simp, indexByte_nonneg]
    show ([47, 63] : List UInt8).contains c = isSQ c
    unfold isSQ
    rw [List.contains_cons, List.contains_cons]
    simp
  rw [hS] at cw ca hix ⊢
  have CW := hid cw
  have CA := hid ca
  have HIX := hid hix
  clear cw ca hix hS
  have hlong : ∀ W, Calls Tryz.prog 40 #[.int .i64 (s.size : Int)] W fun e w' => e = .returned (.bool false) ∧ W = w' := by
    intro W
    have t : decide (8 < (s.size : Int)) = false := by rw [decide_eq_false_iff_not]; omega
    go_enter Tryz.func40, Tryz.ntmps40
    go_wp2
    go_ret
    exact ⟨rfl, rfl⟩
  go_enter Tryz.func27, Tryz.ntmps27
  go_wp2_with (go_at_call 40; refine (hlong _).mono ?_; rintro e w' ⟨rfl, rfl⟩)
  clear hlong
  go_loopw [] (fun wr => ∃ pos : Nat, pos ≤ s.size ∧ wr.heap[w.heap.size]? = some (.stringIter s pos) ∧ (s.data.toList.take pos).all (fun c => !isSQ c) = true ∧ Below w.heap.size w wr) (fun wr => s.size - wr.iterPos w.heap.size)
  case atStart =>
    refine ⟨0, Nat.zero_le _, ?_, rfl, below_alloc _ _⟩
    have := World.iter_heap w s 0
    simpa using this
  case round =>
    obtain ⟨pos, hpos, hit, hall, hb⟩ := hrel
    have HA := hid hall
    clear hall
    have hsz : w.heap.size < wr.heap.size := (Array.getElem?_eq_some_iff.1 hit).1
    by_cases hp : pos < s.size
    · by_cases ha : (s[pos]'hp).toNat < 128
      · have hnx : ∀ ty, (Instr.next (.pointer (some ⟨w.heap.size, 0, none⟩)) true ty).run Tryz.prog wr = _ := fun ty => Lib.run_next_ascii_at wr w.heap.size s pos ty hit hp ha
        have hit2 := Lib.iterAt_heap wr w.heap.size s pos (pos + 1) hit
        have hb2 := Lib.below_iterAt hb (k := w.heap.size) (Nat.le_refl _) s (pos + 1)
        have cs := fun W => CA.out (s[pos]'hp) W ha
        have hx := HIX.out (s[pos]'hp)
        obtain ⟨z, hz⟩ : ∃ z, Lib.indexByte S.data.toList (((s[pos]'hp).toNat : Int)).toNat.toUInt8 = z := ⟨_, rfl⟩
        rw [hz] at cs hx
        obtain ⟨q, hq⟩ : ∃ q, isSQ (s[pos]'hp) = q := ⟨_, rfl⟩
        rw [hq] at hx
        have CS := hid cs
        have HQ := hid hq
        clear cs hq hz
        cases q
        · go_wp2_with (go_at_call 39; refine (CS.out _).mono ?_; rintro e w' ⟨rfl, rfl⟩)
          go_roundw
          case rel => exact ⟨pos + 1, hp, hit2, all_rune s (fun c => !isSQ c) pos 1 hp HA.out (fun k hk h1 h2 => by
            have : k = pos := by omega
            subst this; rw [HQ.out]; rfl), hb2⟩
          case measure =>
            simp only [World.iterPos, hit2, hit]
            omega
        · have hyes : R = (pos : Int) := by rw [← HR.out]; exact sqZ_hit HA.out (Lib.data_getElem? s pos hp) HQ.out
          subst hyes
          go_wp2_with (go_at_call 39; refine (CS.out _).mono ?_; rintro e w' ⟨rfl, rfl⟩)
          go_ret
          exact ⟨rfl, hb2⟩
      · have hnx : ∀ ty, (Instr.next (.pointer (some ⟨w.heap.size, 0, none⟩)) true ty).run Tryz.prog wr = _ := fun ty => Lib.run_next_any_at wr w.heap.size s pos ty hit hp
        obtain ⟨hd1, hd2⟩ := decode_bound s pos hp (by omega)
        obtain ⟨hd3, hd4⟩ := decode_high s pos hp (by omega)
        obtain ⟨hw1, hw2⟩ := decode_wide s pos hp (by omega)
        have cs := fun W => CW.out (Utf8.decode s pos).1 W hd1 hd2
        have hit2 := Lib.iterAt_heap wr w.heap.size s pos (pos + (Utf8.decode s pos).2) hit
        have hb2 := Lib.below_iterAt hb (k := w.heap.size) (Nat.le_refl _) s (pos + (Utf8.decode s pos).2)
        have CS := hid cs
        have hlow := hid (all_rune s (fun c => !isSQ c) pos _ hw1 HA.out (fun k hk h1 h2 => by
          have := hw2 k hk h1 h2
          have h3 := byte_all (p := fun c => decide (c.toNat < 128) || !isSQ c) (by decide +kernel) s[k]
          simp only [Bool.or_eq_true, decide_eq_true_eq] at h3
          rcases h3 with h3 | h3
          · omega
          · exact h3))
        have hszi : (wr.iterAt w.heap.size s (pos + (Utf8.decode s pos).2)).heap.size = wr.heap.size := by
          first | rfl | simp [World.iterAt]
        clear cs hw2 hd1 hd2 hd3
        go_wp2_with (go_at_call 39; refine (CS.out _).mono ?_; rintro e w' ⟨rfl, hbw⟩)
        have hit3 : w'.heap[w.heap.size]? = some (.stringIter s (pos + (Utf8.decode s pos).2)) := by
          rw [hbw.block w.heap.size (by rw [hszi]; exact hsz)]; exact hit2
        go_roundw
        case rel => exact ⟨pos + (Utf8.decode s pos).2, hw1, hit3, hlow.out, hb2.trans (hbw.mono (by rw [hszi]; exact hb.size))⟩
        case measure =>
          simp only [World.iterPos, hit3, hit]
          omega
    · have hnx : ∀ ty, (Instr.next (.pointer (some ⟨w.heap.size, 0, none⟩)) true ty).run Tryz.prog wr = _ := fun ty => Lib.run_next_end_at wr w.heap.size s pos ty hit hp
      have hyes : R = -1 := by rw [← HR.out]; exact sqZ_none (by rw [← take_all s pos hp]; exact HA.out)
      subst hyes
      go_wp2_with fail
      go_ret
      exact ⟨rfl, hb⟩

theorem indexAny_any (s : ByteArray) (w : World) (hs : s.size < 4294967281) :
    Calls Tryz.prog 27 #[.string s, .string sq] w fun e w' => e = .returned (.int .i64 (sqZ s.data.toList)) ∧ Below w.heap.size w w' := by
  by_cases h8 : s.size ≤ 8
  · exact anyShort s w h8
  · rw [← sqZ_lib]
    refine (Tryz.strings_IndexAny_long (zero_of_info (n := 256) (by kernel_rfl)).1 s sq w (by decide) (by omega) hs (by decide) (fun j b hj => by
      match j, hj with
      | 0, hj => cases hj; decide
      | 1, hj => cases hj; decide)).mono fun e w' ⟨h1, h2⟩ => ⟨h1, ?_⟩
    rw [h2]
    exact ((Below.refl _ _).alloc (Nat.le_refl _) _).alloc (by simp) _
end Go.Proofs.YthokpbpnecdgpaaGreatDoor

/-
  Contracts of the library that package place leans on: strings.IndexRune at a rune beyond ASCII, strings.IndexAny at "/?".
-/
import Derived.Test.YthokpbpnecdgpaaGreatDoorPurePlace2
import Derived.Test.YthokpbpnecdgpaaGreatDoorInfo
import Derived.Test.YthokpbpnecdgpaaGreatDoorShelf
import Derived.Laws.Runes
import Derived.Deep.QuietTactic
import Derived.BigQuiet
import Derived.IntWalk
import Derived.WalkMore
namespace Go.Proofs.YthokpbpnecdgpaaGreatDoor
open Go.RowKit Go.Pantry

/-- the two signs -/
def sq : ByteArray := ⟨#[47, 63]⟩
set_option maxRecDepth 100000 in
theorem rune_bad (w : World) :
    Calls Tryz.prog 39 #[.string sq, .int .i32 65533] w fun e w' => e = .returned (.int .i64 (-1)) ∧ Below w.heap.size w w' := by
  obtain ⟨s, hs⟩ : ∃ s, sq = s := ⟨_, rfl⟩
  have hsz : s.size = 2 := by rw [← hs]; rfl
  have hasc : ∀ k (hk : k < s.size), (s[k]'hk).toNat < 128 := by
    subst hs
    intro k hk
    match k, hk with
    | 0, _ => exact (by decide : (47 : UInt8).toNat < 128)
    | 1, _ => exact (by decide : (63 : UInt8).toNat < 128)
    | k + 2, hk => exact absurd hk (by show ¬ (k + 2 < 2); omega)
  rw [hs]
  have HA := hid hasc
  clear hasc hs
  go_enter Tryz.func39, Tryz.ntmps39
  go_wp2
  go_loopw [] (fun wr => ∃ pos : Nat, pos ≤ s.size ∧ wr.heap[w.heap.size]? = some (.stringIter s pos) ∧ Below w.heap.size w wr) (fun wr => s.size - wr.iterPos w.heap.size)
  case atStart =>
    refine ⟨0, Nat.zero_le _, ?_, below_alloc _ _⟩
    have := World.iter_heap w s 0
    simpa using this
  case round =>
    obtain ⟨pos, hpos, hit, hb⟩ := hrel
    by_cases hp : pos < s.size
    · have ha := HA.out pos hp
      have hnx : ∀ ty, (Instr.next (.pointer (some ⟨w.heap.size, 0, none⟩)) true ty).run Tryz.prog wr = _ := fun ty => Lib.run_next_ascii_at wr w.heap.size s pos ty hit hp ha
      have hit2 := Lib.iterAt_heap wr w.heap.size s pos (pos + 1) hit
      have hb2 := Lib.below_iterAt hb (k := w.heap.size) (Nat.le_refl _) s (pos + 1)
      have hne : (((s[pos]'hp).toNat : Int) == 65533) = false := by rw [beq_eq_false_iff_ne]; omega
      go_wp2_with fail
      go_roundw
      case rel => exact ⟨pos + 1, hp, hit2, hb2⟩
      case measure =>
        simp only [World.iterPos, hit2, hit]
        omega
    · have hnx : ∀ ty, (Instr.next (.pointer (some ⟨w.heap.size, 0, none⟩)) true ty).run Tryz.prog wr = _ := fun ty => Lib.run_next_end_at wr w.heap.size s pos ty hit hp
      go_wp2_with fail
      go_ret
      exact ⟨rfl, hb⟩

set_option maxRecDepth 100000 in
theorem rune_wide (r : Nat) (w : World) (h : 128 ≤ r) (h2 : r ≤ 1114111) :
    Calls Tryz.prog 39 #[.string sq, .int .i32 (r : Int)] w fun e w' => e = .returned (.int .i64 (-1)) ∧ Below w.heap.size w w' := by
  by_cases h3 : r = 65533
  · subst h3; exact rune_bad w
  · obtain ⟨S, hS⟩ : ∃ S, sq = S := ⟨_, rfl⟩
    have hsz : S.size = 2 := by rw [← hS]; rfl
    rw [hS]
    have t1 : ((r : Int) == 65533) = false := by rw [beq_eq_false_iff_ne]; omega
    obtain ⟨v, hv⟩ : ∃ v, Lib.validRune (r : Int) = v := ⟨_, rfl⟩
    have cv := fun W => Tryz.utf8_ValidRune (r : Int) W
    rw [hv] at cv
    cases v
    · clear hv hS hsz
      have t2 : decide ((r : Int) < 128) = false := by rw [decide_eq_false_iff_not]; omega
      go_enter Tryz.func39, Tryz.ntmps39
      go_wp2_with (go_at_call 53; go_must (refine (cv _).mono ?_); rintro e w' ⟨rfl, rfl⟩)
      go_ret
      exact ⟨rfl, Below.refl _ _⟩
    · have hvv : Utf8.valid (r : Int) = true := by
        unfold Lib.validRune at hv
        unfold Utf8.valid
        rw [decide_eq_true_eq] at hv
        simp only [Bool.or_eq_true, Bool.and_eq_true, decide_eq_true_eq]
        omega
      obtain ⟨e1, e2, e3⟩ := encode_facts (r : Int) hvv (by omega)
      have hcv := fun W => run_convert_int_string (P := Tryz.prog) W 21 9 .i32 (r : Int) (by kernel_rfl) Tryz.underlying9
      have t2 : decide ((r : Int) < 128) = false := by rw [decide_eq_false_iff_not]; omega
      obtain ⟨E, hE⟩ : ∃ E, Utf8.encode (r : Int) = E := ⟨_, rfl⟩
      rw [hE] at e1 e2 e3 hcv
      clear hE hv hvv
      by_cases hn : E.size = 2
      · have h4 := e3 (by omega)
        have hlt : 1 < E.size := by omega
        have h5 : 128 ≤ (E[1]'hlt).toNat := by
          have e : E.size - 1 = 1 := by omega
          simpa only [e] using h4
        obtain ⟨b, hb⟩ : ∃ b, E[1]'hlt = b := ⟨_, rfl⟩
        rw [hb] at h5
        have hix : Lib.indexByte ByteArray.empty.data.toList b = -1 := rfl
        have hl1 : 1 < S.size := by omega
        have hS1 : ((S[1]'hl1).toNat : Int) = 63 := by
          subst hS; rfl
        have t3 : (((S[1]'hl1).toNat : Int) != (b.toNat : Int)) = true := by rw [hS1, bne_iff_ne]; omega
        clear hS1 hS
        have ci := fun W => Tryz.strings_IndexByte ByteArray.empty (b.toNat : Int) W
        rw [show ((b.toNat : Int)).toNat.toUInt8 = b from by simp, hix] at ci
        have w1 : IntKind.i64.wrap ((E.size : Int) - 1) = 1 := by rw [hn]; rfl
        have CI := hid ci
        have HB := hid hb
        have w2 : IntKind.i64.wrap 2 = 2 := rfl
        clear e1 e3 h4 h5 hix ci hn
        go_enter Tryz.func39, Tryz.ntmps39
        go_wp2_with (go_at_call 53; go_must (refine (cv _).mono ?_); rintro e wv ⟨rfl, rfl⟩)
        go_step3
        go_wp2_with fail
        refine wp_loop_rounds 1 ?_
        rw [rounds_succ]
        go_wp2_with fail
        go_step3
        go_wp2_with fail
        go_quiet (fail)
        have hb2 := (below_drewN (Below.refl wv.heap.size wv) nq)
        generalize wv.drewN nq = w2 at hb2 ⊢
        go_wp2_with fail
        go_quiet ((go_at_call 52; with_reducible exact Calls.quiet_of_same (CI.out _)))
        go_wp2_with fail
        rw [Exit.noGoto_ret]
        go_wp2_with fail
        rw [Exit.noGoto_ret]
        go_ret
        exact ⟨rfl, hb2.trans ((below_drewN (Below.refl w2.heap.size w2) _).mono hb2.size)⟩
      · have t4 : decide ((E.size : Int) - 1 < (S.size : Int)) = false := by rw [decide_eq_false_iff_not]; omega
        clear hS hsz
        have w1 : IntKind.i64.wrap ((E.size : Int) - 1) = (E.size : Int) - 1 := IntWalk.i64_in _ (by omega)
        clear e3 hn
        go_enter Tryz.func39, Tryz.ntmps39
        go_wp2_with (go_at_call 53; go_must (refine (cv _).mono ?_); rintro e w' ⟨rfl, rfl⟩)
        go_step3
        go_wp2_with fail
        refine wp_loop_rounds 1 ?_
        rw [rounds_succ]
        go_wp2
        rw [Exit.noGoto_ret]
        go_ret
        exact ⟨rfl, Below.refl _ _⟩
end Go.Proofs.YthokpbpnecdgpaaGreatDoor

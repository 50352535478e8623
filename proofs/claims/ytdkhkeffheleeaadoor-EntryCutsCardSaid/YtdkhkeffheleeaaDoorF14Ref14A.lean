/-
  The document's answers of layer 14: num, Sum, text.
-/
import Derived.Test.YtdkhkeffheleeaaDoorF1401
import Derived.Test.YtdkhkeffheleeaaDoorPureAll2
import Derived.Test.YtdkhkeffheleeaaDoorF1402
import Derived.Test.YtdkhkeffheleeaaDoorAppStr
import Derived.Deep.QuietTactic
import Derived.BigQuiet
import Derived.IntWalk
import Derived.Laws.Bits64

set_option linter.unusedVariables false
set_option linter.unusedSimpArgs false
namespace Go.Pantry
open Go.RowKit
/-- bytes that the call made -/
def MadeBy (t : TypeId) (B : Nat) (l : List UInt8) (e : Ending) (w' : World) : Prop := ∃ v', e = .returned v' ∧ w'.ownsRow B t 1 v' l.length (l.map byteV)
def ReadBy (l : List UInt8) (e : Ending) (w' : World) : Prop := ∃ v', e = .returned v' ∧ Reads w' v' (l.map byteV)
theorem sumL_nil : sumL [] = 2166136261 := by unfold sumL sumF; exact List.foldl_nil
theorem set_last {α : Type} (p T : List α) (c d : α) (q : Nat) (hp : p.length = q) : ((p ++ [d]) ++ T).set q c = p ++ c :: T := by
  subst hp
  rw [List.append_assoc, List.set_append_right _ _ (Nat.le_refl _), Nat.sub_self]
  rfl
theorem snoc_ex' {α : Type} (l : List α) (k : Nat) (h : l.length = k + 1) : ∃ m a, l = m ++ [a] ∧ m.length = k := snoc_ex l k h
theorem numB_snoc (n k : Nat) (T : List UInt8) : numB n (k + 1) ++ T = numB (n / 256) k ++ UInt8.ofNat (n % 256) :: T := by
  rw [numB, List.append_assoc]; rfl
end Go.Pantry
namespace Go.Proofs.YtdkhkeffheleeaaDoor
open Go.RowKit Go.Pantry

theorem i64_xor_nat (a b : Nat) (ha : a < 9223372036854775808) (hb : b < 9223372036854775808) : bits .xor .i64 (a : Int) (b : Int) = ((a ^^^ b : Nat) : Int) := by
  have hx : a ^^^ b < 2 ^ 63 := Nat.xor_lt_two_pow (by omega) (by omega)
  have h1 : (BitVec.ofInt 64 (a : Int)).toNat = a := by
    rw [BitVec.ofInt_natCast, BitVec.toNat_ofNat]; exact Nat.mod_eq_of_lt (by omega)
  have h2 : (BitVec.ofInt 64 (b : Int)).toNat = b := by
    rw [BitVec.ofInt_natCast, BitVec.toNat_ofNat]; exact Nat.mod_eq_of_lt (by omega)
  show IntKind.i64.wrap ((BitVec.ofInt 64 (a : Int) ^^^ BitVec.ofInt 64 (b : Int)).toNat : Int) = _
  rw [BitVec.toNat_xor, h1, h2]
  exact IntWalk.i64_in _ (by omega)

set_option maxRecDepth 8000 in
set_option maxHeartbeats 4000000 in
theorem r14Num_any (n size : Nat) (w : World) (hn : n < 9223372036854775807) (hs : size ≤ 100) :
    Calls Tryd.prog 35 #[.int .i64 (n : Int), .int .i64 (size : Int)] w fun e w' => ReadBy (numB n size) e w' ∧ Below w.heap.size w w' := by
  have k0 : IntKind.i64.wrap ((size : Int) - 1) = (size : Int) - 1 := IntWalk.i64_in _ (by omega)
  obtain ⟨F, hF⟩ : ∃ F, numB n size = F := ⟨_, rfl⟩
  rw [hF]
  have HF := hid hF
  clear hF
  go_enter Tryd.func35, Tryd.ntmps35
  go_wp2_with (at_make; go_must (refine Go.Pantry.wpList_make_row _ rfl _ _ 25 rfl 5 Tryd.underlying25 infoU8 rfl (by decide) _ _ _ _ size rfl rfl rfl rfl (by omega) ?_); intro w1 xs hxs hrow hlt1 hb1)
  go_loopw [0, 6] (fun nv i wr => ∃ (m q : Nat) (p : List Value) (T : List UInt8), nv = .int .i64 (m : Int) ∧ i = .int .i64 ((q : Int) - 1) ∧ q ≤ size ∧ m < 9223372036854775807 ∧ p.length = q ∧ p.length + T.length = size ∧ F = numB m q ++ T ∧ blockAt wr w.heap.size (p ++ T.map byteV) ∧ Below w.heap.size w wr ∧ w.heap.size < wr.heap.size) (fun _ i _ => (intOf i + 1).toNat)
  case atStart => exact ⟨n, size, xs, [], rfl, rfl, Nat.le_refl _, hn, hxs, by simp [hxs], by rw [← HF.out]; simp, by simpa using hrow, hb1, hlt1⟩
  case round =>
    obtain ⟨m, q, p, T, rfl, rfl, hq, hm, hpl, hpt, hFm, hrw, hb, hsz⟩ := hrel
    cases q with
    | zero =>
      have hp0 : p = [] := List.eq_nil_of_length_eq_zero hpl
      subst hp0
      have hr := hrw.reads size
      have hlT : (T.map byteV).length = size := by rw [List.length_map]; simpa using hpt
      rw [List.nil_append, hlT] at hr
      have HR := hid hr
      have HFF := hid (show F = T by rw [hFm]; rfl)
      have HB := hid hb
      clear hrw hr hFm hb hpl hpt hlT
      go_wp2_with fail
      go_ret
      exact ⟨⟨_, rfl, by rw [HFF.out]; exact HR.out⟩, HB.out⟩
    | succ q =>
      have e1 : (((q + 1 : Nat) : Int) - 1) = (q : Int) := by omega
      rw [e1]
      obtain ⟨p', d, rfl, hp'⟩ := snoc_ex' p q hpl
      have hlen : q < ((p' ++ [d]) ++ T.map byteV).length := by rw [List.length_append, List.length_append]; simp; omega
      have hfree : wr.frozen? ⟨w.heap.size, q, none⟩ = false := hrw.free q hlen
      have hcell := hrw.cell q _ (List.getElem?_eq_getElem hlen)
      have hset := hrw.set q hlen (.int .u8 ((m : Int) % 256))
      rw [set_last p' _ _ d q hp'] at hset
      obtain ⟨u0, hu0⟩ : ∃ u, ((p' ++ [d]) ++ T.map byteV)[q]'hlen = u := ⟨_, rfl⟩
      rw [hu0] at hcell
      have hc : ((UInt8.ofNat (m % 256)).toNat : Int) = (m : Int) % 256 := by have := ofNat_mod m; omega
      have hev : byteV (UInt8.ofNat (m % 256)) = .int .u8 ((m : Int) % 256) := by show Value.int .u8 _ = _; rw [hc]
      have HEV := hid hev
      have hc2 : IntKind.u8.wrap ((m : Int) % 256) = (m : Int) % 256 := by simp [IntKind.wrap, IntKind.signed, IntKind.bits] <;> omega
      have hw1 : IntKind.i64.wrap ((m : Int) % 256) = (m : Int) % 256 := IntWalk.i64_in _ (by omega)
      have hw2 : IntKind.i64.wrap ((m : Int) / 256) = ((m / 256 : Nat) : Int) := by rw [IntWalk.i64_in _ (by omega)]; omega
      have hw3 : IntKind.i64.wrap ((q : Int) - 1) = (q : Int) - 1 := IntWalk.i64_in _ (by omega)
      have hq0 : (0 : Int) ≤ (q : Int) := by omega
      have HS := hid hset
      have HFF := hid (show F = numB (m / 256) q ++ UInt8.ofNat (m % 256) :: T by rw [hFm, numB_snoc])
      have HB := hid hb
      clear hset hFm hb hu0 hrw hpl hlen hc hev
      go_wp2_with fail
      go_roundw
      case rel => exact ⟨m / 256, q, p', UInt8.ofNat (m % 256) :: T, rfl, by go_num, by omega, by omega, hp', by rw [List.length_append] at hpt; simp at hpt ⊢; omega, HFF.out, by rw [List.map_cons, HEV.out]; exact HS.out, HB.out.setCell (by simp) _, by simpa [World.setCell] using hsz⟩
      case measure => simp [intOf]
set_option maxRecDepth 8000 in
set_option maxHeartbeats 4000000 in
theorem r14Sum_any (v : Value) (l : List UInt8) (w : World) (hr : Reads w v (l.map byteV)) (hl : l.length ≤ 1000000000) :
    Calls Tryd.prog 36 #[v] w fun e w' => e = .returned (.int .i64 (sumL l : Int)) ∧ Below w.heap.size w w' := by
  obtain ⟨ao, cap, rfl, -⟩ := id hr
  have HR := hid hr
  rw [List.length_map] at *
  obtain ⟨n, hn⟩ : ∃ n, l.length = n := ⟨_, rfl⟩
  rw [hn] at hl ⊢
  have HN := hid hn
  clear hr hn
  go_enter Tryd.func36, Tryd.ntmps36
  go_wp2_with fail
  go_loopw [3, 4] (fun s i wr => ∃ (k m : Nat), k ≤ n ∧ i = .int .i64 (k : Int) ∧ s = .int .i64 (m : Int) ∧ m < 4294967296 ∧ m = sumL (l.take k) ∧ Below w.heap.size w wr) (fun _ i _ => n - (intOf i).toNat)
  case atStart => exact ⟨0, 2166136261, Nat.zero_le _, rfl, rfl, by decide, by rw [List.take_zero]; exact sumL_nil.symm, Below.refl _ _⟩
  case round =>
    obtain ⟨k, m, hk, rfl, rfl, hm, hms, hb⟩ := hrel
    have HM := hid hms
    clear hms
    by_cases hlt : k < n
    · obtain ⟨c, hc⟩ : ∃ c, l[k]? = some c := ⟨_, List.getElem?_eq_getElem (by rw [HN.out]; exact hlt)⟩
      obtain ⟨bb, off, cap', hv, hcell⟩ := (HR.out.below hb).at_some (by rw [List.length_map, HN.out]; omega)
      have hcc := hcell k (byteV c) (by simp [hc])
      have hv2 : ao = some ⟨bb, off, none⟩ := by simp only [Value.slice.injEq] at hv; exact hv.1
      subst hv2
      have hkI : (k : Int) < (n : Int) := by omega
      have hk0 : (0 : Int) ≤ (k : Int) := by omega
      have hkw : IntKind.i64.wrap ((k : Int) + 1) = (k : Int) + 1 := IntWalk.i64_in _ (by omega)
      have HT := hid (show sumL (l.take (k + 1)) = sumC m c by
        obtain ⟨hk', e⟩ := List.getElem?_eq_some_iff.1 hc
        rw [List.take_succ_eq_append_getElem hk', e, HM.out]
        unfold sumL sumF
        rw [List.foldl_append, List.foldl_cons, List.foldl_nil])
      have hx := xor_lt hm c
      have hcl := c.toNat_lt
      have HXX := hid (show sumC m c = (m ^^^ c.toNat) * 16777619 % 4294967296 by unfold sumC; exact Eq.refl _)
      have hbx := i64_xor_nat m c.toNat (by omega) (by omega)
      obtain ⟨X, hX⟩ : ∃ X, m ^^^ c.toNat = X := ⟨_, rfl⟩
      rw [hX] at hx HXX hbx
      have HX := hid hX
      have hw1 : IntKind.i64.wrap ((X : Int) * 16777619) = (X : Int) * 16777619 := IntWalk.i64_in _ (by omega)
      have hw2 : IntKind.i64.wrap (((X : Int) * 16777619) % 4294967296) = ((X * 16777619 % 4294967296 : Nat) : Int) := by rw [IntWalk.i64_in _ (by omega)]; omega
      have HC := hid (show ((X : Int) * 16777619 % 4294967296) = ((X * 16777619 % 4294967296 : Nat) : Int) by omega)
      have HB := hid hb
      clear hv hcell hc hb hX
      go_wp2_with fail
      go_roundw
      case rel => exact ⟨k + 1, X * 16777619 % 4294967296, hlt, by go_num, by rw [HC.out], Nat.mod_lt _ (by decide), by rw [HT.out, HXX.out], HB.out⟩
      case measure => simp [intOf]; omega
    · have hkn : k = n := by omega
      subst hkn
      have htk : l.take k = l := List.take_of_length_le (by rw [HN.out]; exact Nat.le_refl _)
      have HS := hid (show m = sumL l by rw [HM.out, htk])
      clear htk
      go_wp2_with fail
      go_ret
      exact ⟨ret_int (by rw [HS.out]), hb⟩
end Go.Proofs.YtdkhkeffheleeaaDoor

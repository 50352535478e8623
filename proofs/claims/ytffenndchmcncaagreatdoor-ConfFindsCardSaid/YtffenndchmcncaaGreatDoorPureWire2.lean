/-
  Bytes of messages: the plain mathematics of layer 7's writing: digits, the fields that are written, that what is written is read as it was. No program is imported.
-/
import Derived.Test.YtffenndchmcncaaGreatDoorPureWire
import Derived.Lib.ItoaMem
namespace Go.Pantry
open Go.RowKit

/-- a number's digits -/
def decL (n : Nat) : List UInt8 := Lib.decDigits n
theorem decL_small {n : Nat} (h : n < 10) : decL n = [(48 + n).toUInt8] := by
  unfold decL
  rw [Lib.decDigits, dif_pos h]
  try rfl
theorem decL_big {n : Nat} (h : ¬ n < 10) : decL n = decL (n / 10) ++ [(48 + n % 10).toUInt8] := by
  unfold decL
  rw [Lib.decDigits, dif_neg h]
  try rfl
theorem decL_itoa (n : Nat) : Lib.itoa (n : Int) = decL n := by
  unfold Lib.itoa decL
  rw [if_neg (by omega), Int.toNat_natCast]
theorem decL_digF : ∀ (f n : Nat), n < 10 ^ (f + 1) → decL n = digF (f + 1) n
  | 0, n, h => by
    rw [decL_small (by simpa using h), digF, if_pos (by simpa using h)]
  | f + 1, n, h => by
    by_cases h10 : n < 10
    · rw [decL_small h10, digF, if_pos h10]
    · rw [decL_big h10, digF, if_neg h10, decL_digF f (n / 10) (by rw [Nat.div_lt_iff_lt_mul (by decide)]; rw [Nat.pow_succ] at h; exact h)]
theorem decL_len : ∀ (f n : Nat), n < 10 ^ (f + 1) → (decL n).length ≤ f + 1
  | 0, n, h => by rw [decL_small (by simpa using h)]; simp
  | f + 1, n, h => by
    by_cases h10 : n < 10
    · rw [decL_small h10]; simp
    · rw [decL_big h10, List.length_append]
      have := decL_len f (n / 10) (by rw [Nat.div_lt_iff_lt_mul (by decide)]; rw [Nat.pow_succ] at h; exact h)
      simp; omega
theorem decL_five {n : Nat} (h : n < 100000) : decL n = digF 5 n := decL_digF 4 n (by simpa using h)
theorem decL_number {n : Nat} (h : n < 100000) : numberL (decL n) = some n := by
  rw [decL_five h]
  unfold numberL
  rw [digF_all, digF_val 4 n (by simpa using h)]
  have hne := digF_ne 4 n
  have he : (digF 5 n).isEmpty = false := by cases hd : digF 5 n with | nil => exact absurd hd hne | cons a r => rfl
  rw [he, if_pos (by decide), Nat.min_eq_left (by omega)]
theorem decL_list {n : Nat} (h : n < 100000) : listL (decL n) = [decL n] := by rw [decL_five h]; exact dig_list n
theorem decL_trim {n : Nat} (h : n < 100000) : trimL (decL n) = decL n := by rw [decL_five h]; exact dig_trim n
theorem decL_text {n : Nat} (h : n < 100000) : (decL n).all okV = true := by
  rw [decL_five h, List.all_eq_true]
  intro c hc
  have h2 := List.all_eq_true.1 (digF_all 5 n) c hc
  unfold isDig at h2
  simp only [Bool.and_eq_true, decide_eq_true_eq] at h2
  have h3 : 48 ≤ c.toNat := h2.1
  have h4 : c.toNat ≤ 57 := h2.2
  unfold okV
  simp
  omega
/-- Content-Length, so many -/
def lenFld (n : Nat) : Fld := (clN, decL n)
theorem lenFld_right {n : Nat} (h : n < 100000) : rightF (lenFld n) = true := by
  unfold rightF lenFld
  have h1 : tokenL clN = true := by decide +kernel
  have h2 := decL_len 4 n (by simpa using h)
  simp only [h1, decL_trim h, decL_text h, beq_self_eq_true, Bool.true_and, Bool.and_true, Bool.and_eq_true, decide_eq_true_eq]
  exact ⟨by decide, by omega⟩
theorem lenFld_is (n : Nat) : isF clN (lenFld n) = true ∧ isF teN (lenFld n) = false := by
  unfold isF lenFld
  have e1 : (lowerL clN == lowerL clN) = true := by decide +kernel
  have e2 : (lowerL clN == lowerL teN) = false := by decide +kernel
  exact ⟨e1, e2⟩
/-- a field of a name that none has is laid at the end -/
theorem withF_none (L : List Fld) (f : Fld) (h : allF L f.1 = []) : withF L f = L ++ [f] := by
  have ha : L.any (isF f.1) = false := by
    rw [List.any_eq_false]
    intro g hg hf
    have hm : g.2 ∈ allF L f.1 := by
      unfold allF
      exact List.mem_map.2 ⟨g, List.mem_filter.2 ⟨hg, hf⟩, rfl⟩
    rw [h] at hm
    cases hm
  obtain ⟨h1, h2, -⟩ := runW_out f L
  unfold withF
  rw [h2, ha, if_neg (by simp)]
  have key : ∀ (l acc : List Fld), (∀ g ∈ l, isF f.1 g = false) → l.foldl (stepW f) (acc, false) = (acc ++ l, false) := by
    intro l
    induction l with
    | nil => intro acc _; simp
    | cons g l ih =>
      intro acc hl
      rw [List.foldl_cons]
      have hg := hl g (List.mem_cons_self ..)
      have e : stepW f (acc, false) g = (acc ++ [g], false) := by unfold stepW; rw [hg]; rfl
      rw [e, ih _ (fun x hx => hl x (List.mem_cons_of_mem _ hx))]
      simp
  have e := key L [] (fun g hg => by have := List.any_eq_false.1 ha g hg; simpa using this)
  unfold runW
  rw [e]
  rfl
theorem all_outsW {L : List Fld} {ns : List (List UInt8)} {n : List UInt8} (h : n ∈ ns) : allF (outsF L ns) n = [] := by
  unfold allF outsF
  rw [List.filter_filter]
  have e : (L.filter fun f => isF n f && !ns.any fun m => isF m f) = [] := by
    rw [List.filter_eq_nil_iff]
    intro f _ hf
    simp only [Bool.and_eq_true, Bool.not_eq_true'] at hf
    have := List.any_eq_false.1 hf.2 n h
    exact this hf.1
  rw [e]
  rfl
def bareL (L : List Fld) : List Fld := outsF L [clN, teN]
theorem with_len (L : List Fld) (n : Nat) : withsF (bareL L) [lenFld n] = bareL L ++ [lenFld n] := by
  show withF (bareL L) (lenFld n) = _
  exact withF_none _ _ (all_outsW (by simp [lenFld]))
theorem bare_te (L : List Fld) : allF (bareL L) teN = [] := all_outsW (by simp)
theorem bare_cl (L : List Fld) : allF (bareL L) clN = [] := all_outsW (by simp)
theorem bareL_mem {L : List Fld} {f : Fld} (h : f ∈ bareL L) : f ∈ L := (List.mem_filter.1 h).1
theorem bareL_len (L : List Fld) : (bareL L).length ≤ L.length := List.length_filter_le ..
/-- the fields that are written: with a length, or without -/
def putL (L : List Fld) (o : Option Nat) : List Fld := match o with | none => bareL L | some n => bareL L ++ [lenFld n]
theorem putL_len (L : List Fld) (o : Option Nat) : (putL L o).length ≤ L.length + 1 := by
  have := bareL_len L
  cases o with
  | none => show (bareL L).length ≤ _; omega
  | some n => show (bareL L ++ [lenFld n]).length ≤ _; rw [List.length_append]; simp; omega
theorem frame_put (L : List Fld) (n : Nat) (h : n ≤ 2048) (z : Int) (o : Nat) : frameX z o (putL L (some n)) = .ok (1, n) := by
  have h1 : allF (bareL L ++ [lenFld n]) teN = [] := by
    rw [allF_append, bare_te, all_one, (lenFld_is n).2]
    rfl
  have h2 : allF (bareL L ++ [lenFld n]) clN = [decL n] := by
    rw [allF_append, bare_cl, all_one, (lenFld_is n).1]
    rfl
  have h3 : elementsF (bareL L ++ [lenFld n]) clN = [decL n] := by
    unfold elementsF getF
    rw [h2]
    exact decL_list (by omega)
  show frameX z o (bareL L ++ [lenFld n]) = _
  unfold frameX
  rw [h1, h2, h3]
  simp only [List.isEmpty_nil, List.isEmpty_cons, if_true]
  rw [if_neg (by simp)]
  unfold cntX
  simp only [List.all_cons, List.all_nil, goodN, decL_number (show n < 100000 by omega), Option.isSome_some, Option.getD_some, Bool.and_true, beq_self_eq_true, if_true]
  rw [if_neg (by omega)]
theorem frame_bare (L : List Fld) (z : Int) (o : Nat) : frameX z o (putL L none) = .ok (o, 0) := by
  show frameX z o (bareL L) = _
  unfold frameX
  rw [bare_te, bare_cl]
  rfl
/-- what is written: an error, or the head and the body -/
def putX (right : Bool) (text b : List UInt8) (head : Bool) : Except Nat (List UInt8) :=
  if right = false then .error 10 else if 4096 < text.length then .error 22 else if 2048 < b.length then .error 23 else .ok (if head then text else text ++ b)
theorem body_sized (b rest : List UInt8) (c : Bool) (h : b.length ≤ 2048) : bodyX 1 b.length c (b ++ rest) = .ok (b, b.length) := by
  unfold bodyX
  rw [if_neg (by omega), if_neg (by decide), if_pos rfl, if_neg (by rw [List.length_append]; omega), List.take_left]
theorem body_none (k : List UInt8) (c : Bool) : bodyX 0 0 c k = .ok ([], 0) := by
  unfold bodyX
  rw [if_neg (by decide), if_pos rfl]
/-- a request that is written is read as it was -/
theorem query_put {h : Hd} {L : List Fld} {b rest : List UInt8} {o : Option Nat} (ho : o = if b = [] then none else some b.length) (hf : h.flds = putL L o) (hr : rightReq h = true) (hl : (textReq h).length ≤ 4096) (hb : b.length ≤ 2048) :
    queryX ⟨textReq h ++ b ++ rest, false, 0⟩ = (.ok (h, b), ⟨rest, false, 0⟩) := by
  unfold queryX nextX
  simp only [ne_eq, not_true_eq_false, if_false]
  rw [List.append_assoc, read_req hr hl (b ++ rest)]
  simp only
  unfold reqFr
  rw [hf]
  by_cases he : b = []
  · subst he
    rw [if_pos rfl] at ho
    subst ho
    rw [frame_bare]
    simp only [List.nil_append, List.drop_left, body_none, Nat.add_zero]
  · rw [if_neg he] at ho
    subst ho
    rw [frame_put L _ hb]
    simp only [List.drop_left, body_sized b rest false hb]
    rw [← List.drop_drop, List.drop_left, List.drop_left]
/-- a response that is written is read as it was -/
theorem reply_put {h : Hd} {L : List Fld} {b : List UInt8} {hd : Bool} (hst : 200 ≤ h.status) (hf : h.flds = putL L (if bareX false (h.status : Int) then none else some b.length)) (hr : rightRes h = true) (hl : (textRes h).length ≤ 4096) (hb : b.length ≤ 2048) (hbb : bareX false (h.status : Int) = true → b = []) (k : Nat) :
    replyX hd (k + 1) ⟨textRes h ++ (if hd then [] else b), false, 0⟩ = (.ok (h, if hd then [] else b), ⟨[], false, 0⟩) := by
  have key : respX hd ⟨textRes h ++ (if hd then [] else b), false, 0⟩ = (.ok (h, if hd then [] else b), ⟨[], false, 0⟩) := by
    unfold respX nextX
    simp only [ne_eq, not_true_eq_false, if_false]
    rw [read_res hr hl]
    simp only
    unfold resFr
    by_cases hx : bareX hd (h.status : Int) = true
    · rw [if_pos hx]
      have he : (if hd = true then [] else b) = [] := by
        cases hd with
        | true => rfl
        | false => rw [if_neg (by simp)]; exact hbb hx
      rw [he]
      simp only [List.append_nil, List.drop_length, body_none, Nat.add_zero]
    · rw [if_neg hx]
      have hd0 : hd = false := by cases hd with | true => exact absurd rfl hx | false => rfl
      subst hd0
      rw [if_neg hx] at hf
      rw [hf, frame_put L _ hb]
      simp only [Bool.false_eq_true, if_false]
      have e := body_sized b [] false hb
      rw [List.append_nil] at e
      simp only [List.drop_left, e]
      rw [← List.drop_drop, List.drop_left, List.drop_length]
  rw [replyX, key]
  simp only
  rw [if_neg (by omega)]
end Go.Pantry

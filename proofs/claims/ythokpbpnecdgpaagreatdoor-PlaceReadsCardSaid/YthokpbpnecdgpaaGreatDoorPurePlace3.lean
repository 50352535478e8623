/-
  Places: the plain mathematics of layer 8, third part: plain paths, escapes, ports, dots. No program is imported.
-/
import Derived.Test.YthokpbpnecdgpaaGreatDoorPurePlace2
namespace Go.Pantry
open Go.RowKit

theorem host_h : hostL [104] = some [104] := by decide
theorem read_slash {t : List UInt8} (h : t.head? = some 47) (k : List UInt8) : readP t k = placeL k t := by
  unfold readP; rw [own_slash h, if_neg (by decide)]
/-- a path that was read is read as itself -/
theorem read_plain {t h : List UInt8} {p : PlaceR} (hp : readP t h = some p) :
    p.path.head? = some 47 ∧ p.path.length ≤ 512 ∧ (p.has = false → p.query = []) ∧ (∀ x ∈ segL p.path.tail, isDots x = false) ∧ readP p.path [104] = some ⟨[104], p.path, [], false⟩ := by
  obtain ⟨h', r, hr⟩ := read_place hp
  obtain ⟨h1, h2, h3, h4, h5, h6, h7, h8, h9, h10, h11⟩ := place_shown ⟨r, hr⟩
  refine ⟨h3, h4, h6, h7, ?_⟩
  rw [read_slash h3]
  obtain ⟨e1, e2, e3⟩ := bef_none 63 h11
  unfold placeL
  rw [e1, e2, e3, h9, host_h, cleanL_nil]
  simp only
  rw [h10, if_pos ⟨h3, h4, by simp⟩]
theorem seg_step {s : List UInt8} {l i : Nat} (h1 : l ≤ i) (hi : i ≤ s.length) (hd : ∀ x ∈ segL (s.drop l), isDots x = false) (hn : (47 : UInt8) ∉ (s.drop l).take (i - l)) (he : i = s.length ∨ (∃ h : i < s.length, s[i] = 47)) :
    isDots ((s.drop l).take (i - l)) = false ∧ (i < s.length → ∀ x ∈ segL (s.drop (i + 1)), isDots x = false) := by
  rcases he with rfl | ⟨h, he⟩
  · have e : (s.drop l).take (s.length - l) = s.drop l := List.take_of_length_le (by simp)
    rw [e] at hn ⊢
    rw [seg_none hn] at hd
    exact ⟨hd _ (by simp), fun h => absurd h (Nat.lt_irrefl _)⟩
  · have e : s.drop l = (s.drop l).take (i - l) ++ 47 :: s.drop (i + 1) := by
      conv => lhs; rw [← List.take_append_drop (i - l) (s.drop l)]
      rw [List.drop_drop, show l + (i - l) = i from by omega, List.drop_eq_getElem_cons h, he]
    rw [e, seg_at _ hn] at hd
    exact ⟨hd _ (by simp), fun _ x hx => hd x (by simp [hx])⟩
theorem seg_more {s : List UInt8} {l i : Nat} (h1 : l ≤ i) (hi : i < s.length) (hn : (47 : UInt8) ∉ (s.drop l).take (i - l)) (he : s[i] ≠ 47) : (47 : UInt8) ∉ (s.drop l).take (i + 1 - l) := by
  rw [show i + 1 - l = (i - l) + 1 from by omega, List.take_add_one]
  have e : (s.drop l)[i - l]? = some s[i] := by
    rw [List.getElem?_drop, show l + (i - l) = i from by omega, List.getElem?_eq_getElem hi]
  rw [e]
  simp only [Option.toList_some, List.mem_append, List.mem_singleton, not_or]
  exact ⟨hn, fun e => he e.symm⟩

/-- a text of bytes that stand for themselves -/
theorem clean_all : ∀ {s : List UInt8}, (∀ c ∈ s, badC c = false ∧ c ≠ 37) → cleanL s = some s
  | [], _ => cleanL_nil
  | c :: s, h => by
    rw [cleanL_plain s (h c (by simp)).1 (h c (by simp)).2, clean_all (fun d hd => h d (List.mem_cons_of_mem _ hd))]; rfl

def hexS (n : Nat) : UInt8 := if n < 10 then (48 + n).toUInt8 else (87 + n).toUInt8
def hexW (b : Bool) (n : Nat) : UInt8 := if b then hexS n else hexG n
theorem hexW_V (b : Bool) : ∀ n : Nat, n < 16 → hexV (hexW b n) = some n := by cases b <;> decide
theorem hexW_q (b : Bool) : ∀ n : Nat, n < 16 → hexW b n ≠ 63 := by cases b <;> decide
theorem hexG_s : ∀ n : Nat, n < 16 → hexG n ≠ 47 := by decide
/-- a percent sign and two digits, great or small -/
def escT (b : Bool) (n : Nat) : List UInt8 := [37, hexW b (n / 16), hexW b (n % 16)]
theorem escT_clean (b : Bool) {n : Nat} (hn : n < 256) (r : List UInt8) : cleanL (escT b n ++ r) = (cleanL r).map (escB n ++ ·) := by
  show cleanL (37 :: hexW b (n / 16) :: hexW b (n % 16) :: r) = _
  rw [cleanL_esc r (hexW_V b _ (by omega)) (hexW_V b _ (by omega)), show 16 * (n / 16) + n % 16 = n from by omega]
theorem esc_read (b : Bool) {n : Nat} (hn : n < 256) : readP ([47, 120] ++ escT b n ++ [121, 63] ++ escT b n) [104] = some ⟨[104], [47, 120] ++ escB n ++ [121], escB n, true⟩ := by
  have hs : [47, 120] ++ escT b n ++ [121, 63] ++ escT b n = ([47, 120] ++ escT b n ++ [121]) ++ 63 :: escT b n := by simp
  have hq : (63 : UInt8) ∉ [47, 120] ++ escT b n ++ [121] := by
    have q1 := hexW_q b (n / 16) (by omega)
    have q2 := hexW_q b (n % 16) (by omega)
    unfold escT
    simp only [List.mem_append, List.mem_cons, List.not_mem_nil, or_false, not_or]
    exact ⟨⟨⟨by decide, by decide⟩, by decide, fun e => q1 e.symm, fun e => q2 e.symm⟩, by decide⟩
  obtain ⟨e1, e2, e3⟩ := bef_at 63 (b := escT b n) hq
  have hl : (escB n).length ≤ 3 := by unfold escB; split <;> simp
  have c1 : cleanL ([47, 120] ++ escT b n ++ [121]) = some ([47, 120] ++ escB n ++ [121]) := by
    rw [List.append_assoc]
    show cleanL (47 :: 120 :: (escT b n ++ [121])) = _
    rw [cleanL_plain _ (by decide) (by decide), cleanL_plain _ (by decide) (by decide), escT_clean b hn, show cleanL [121] = some [121] from by decide]
    simp
  have c2 : cleanL (escT b n) = some (escB n) := by
    have := escT_clean b hn []
    rw [List.append_nil, cleanL_nil] at this
    rw [this]; simp
  have hp : pathL ([47, 120] ++ escB n ++ [121]) = [47, 120] ++ escB n ++ [121] := by
    refine path_plain rfl ?_
    show ∀ x ∈ segL (120 :: (escB n ++ [121])), isDots x = false
    rw [seg_none (by
      have := esc_mem hn
      simp only [List.mem_cons, List.mem_append, List.not_mem_nil, or_false, not_or]
      exact ⟨by decide, fun hm => (this 47 hm).1 rfl, by decide⟩)]
    intro x hx
    simp only [List.mem_cons, List.not_mem_nil, or_false] at hx
    subst hx
    unfold isDots
    simp
  rw [hs, read_slash (by rfl)]
  unfold placeL
  rw [e1, e2, e3, c1, c2, host_h]
  simp only
  rw [hp, if_pos ⟨by rfl, by simp; omega, by omega⟩]

theorem host_name {n : List UInt8} (h : (58 : UInt8) ∉ n) : hostL n = hostN n [] ∧ ∀ d, hostL (n ++ 58 :: d) = hostN n d := by
  refine ⟨?_, fun d => ?_⟩
  · obtain ⟨e1, e2, _⟩ := bef_none 58 h
    rw [hostL_eq, e1, e2]
  · obtain ⟨e1, e2, _⟩ := bef_at 58 (b := d) h
    rw [hostL_eq, e1, e2]
theorem hostN_none {n : List UInt8} (h : hostN n [] = none) (d : List UInt8) : hostN n d = none := by
  unfold hostN at h ⊢
  split at h
  · rename_i h1; rw [if_pos h1]
  · rw [if_pos rfl] at h; cases h
theorem hostN_some {n H : List UInt8} (h : hostN n [] = some H) {s : List UInt8} (hs : s ≠ []) (hd : s.all isDig = true) : hostN n s = if 5 < s.length then none else some (H ++ portL s) := by
  unfold hostN at h ⊢
  split at h
  · cases h
  · rename_i h1
    rw [if_pos rfl] at h; cases h
    rw [if_neg h1, if_neg hs]
    by_cases h5 : 5 < s.length
    · rw [if_pos (.inl h5), if_pos h5]
    · rw [if_neg (by simp [hd]; omega), if_neg h5]
/-- a number's digits with noughts ahead -/
def zdL (k n : Nat) : List UInt8 := List.replicate k 48 ++ digF 5 n
theorem zdL_ok (k : Nat) {n : Nat} (h : n < 100000) : zdL k n ≠ [] ∧ (zdL k n).all isDig = true ∧ valL (zdL k n) = n ∧ (zdL k n).length ≤ k + 5 := by
  unfold zdL
  refine ⟨?_, ?_, ?_, ?_⟩
  · have := digF_ne 4 n
    simp [this]
  · rw [List.all_append, digF_all, Bool.and_true, List.all_eq_true]
    intro x hx
    rw [(List.mem_replicate.1 hx).2]; decide
  · rw [valL_zeros, digF_val 4 n (by omega)]
  · have := digF_len 5 n
    simp; omega
theorem port_zd (k : Nat) {n : Nat} (h : n < 100000) : portL (zdL k n) = if n = 80 then [] else 58 :: digF 5 n := by
  unfold portL
  rw [(zdL_ok k h).2.2.1]
theorem port_80 : portL [56, 48] = [] := by decide

/-- what stands for one letter: nothing, a dot, or a segment and two dots, ahead of it -/
def dotG (p : Nat × UInt8) : List (List UInt8) := if p.1 = 1 then [[46], [p.2]] else if p.1 = 2 then [[120], [46, 46], [p.2]] else [[p.2]]
def plainSeg (P : List (Nat × UInt8)) : List (List UInt8) := P.map fun p => [p.2]
def dotSeg (P : List (Nat × UInt8)) : List (List UInt8) := P.flatMap dotG
theorem dots_low {c : UInt8} (h : isLow c = true) : isDots [c] = false := by
  have h1 := byte_all (p := fun c => !isLow c || !isDots [c]) (by decide +kernel) c
  simpa [h] using h1
theorem dotG_ne (p : Nat × UInt8) : dotG p ≠ [] := by
  unfold dotG; split
  · simp
  · split <;> simp
theorem settle_dots : ∀ (P : List (Nat × UInt8)) (acc : List (List UInt8)), (∀ p ∈ P, isLow p.2 = true) → settleL acc (dotSeg P) = acc ++ plainSeg P
  | [], acc, _ => by simp [dotSeg, plainSeg, settleL]
  | p :: P, acc, h => by
    have hp := dots_low (h p (by simp))
    have ih := settle_dots P (acc ++ [[p.2]]) (fun q hq => h q (List.mem_cons_of_mem _ hq))
    have hl : ∀ b, stepS acc [p.2] b = acc ++ [[p.2]] := fun b => by unfold stepS; rw [hp]; rfl
    show settleL acc (dotG p ++ dotSeg P) = _
    have hr : settleL acc ([p.2] :: dotSeg P) = acc ++ plainSeg (p :: P) := by
      rw [settleL, hl, ih]; simp [plainSeg]
    unfold dotG
    split
    · show settleL acc ([46] :: [p.2] :: dotSeg P) = _
      rw [settleL, show stepS acc [46] ([p.2] :: dotSeg P).isEmpty = acc from by unfold stepS; simp [isDots], hr]
    · split
      · show settleL acc ([120] :: [46, 46] :: [p.2] :: dotSeg P) = _
        rw [settleL, settleL, show stepS (stepS acc [120] ([46, 46] :: [p.2] :: dotSeg P).isEmpty) [46, 46] ([p.2] :: dotSeg P).isEmpty = acc from by unfold stepS; simp [isDots], hr]
      · exact hr
theorem slash_more (a b : List (List UInt8)) : slashL (a ++ b) = slashL a ++ slashL b := by unfold slashL; simp
/-- plain segments read -/
theorem slash_read {S : List (List UInt8)} (h0 : S ≠ []) (hc : ∀ x ∈ S, ∀ c ∈ x, isLow c = true ∨ c = 46) (hl : (joinL [47] (settleL [] S)).length ≤ 511) :
    readP (slashL S) [104] = some ⟨[104], 47 :: joinL [47] (settleL [] S), [], false⟩ := by
  have hb : ∀ c, isLow c = true ∨ c = 46 → badC c = false ∧ c ≠ 37 ∧ c ≠ 47 ∧ c ≠ 63 := fun c h => by
    have h1 := byte_all (p := fun c => !(isLow c || c == 46) || (!badC c && c != 37 && c != 47 && c != 63)) (by decide +kernel) c
    have h2 : (isLow c || c == 46) = true := by rcases h with h | h <;> simp [h]
    simp only [h2, Bool.not_true, Bool.false_or, Bool.and_eq_true, Bool.not_eq_true', bne_iff_ne, ne_eq] at h1
    exact ⟨h1.1.1.1, h1.1.1.2, h1.1.2, h1.2⟩
  have h47 : ∀ x ∈ S, (47 : UInt8) ∉ x := fun x hx hm => (hb _ (hc x hx _ hm)).2.2.1 rfl
  have h63 : (63 : UInt8) ∉ slashL S := by
    rw [slash_join h0]
    simp only [List.mem_cons, not_or]
    exact ⟨by decide, join_not (by decide) S (fun x hx hm => (hb _ (hc x hx _ hm)).2.2.2 rfl)⟩
  have hcl : cleanL (slashL S) = some (slashL S) := by
    rw [slash_join h0, cleanL_plain _ (by decide) (by decide), clean_join S (fun x hx => clean_all (fun c hm => ⟨(hb c (hc x hx c hm)).1, (hb c (hc x hx c hm)).2.1⟩))]
    rfl
  have hh : (slashL S).head? = some 47 := by rw [slash_join h0]; rfl
  have hp : pathL (slashL S) = 47 :: joinL [47] (settleL [] S) := by
    unfold pathL
    rw [slash_join h0, List.tail_cons, seg_join h0 h47]
  obtain ⟨e1, e2, e3⟩ := bef_none 63 h63
  rw [read_slash hh]
  unfold placeL
  rw [e1, e2, e3, hcl, host_h, cleanL_nil]
  simp only
  rw [hp, if_pos ⟨hh, by simp; omega, by simp⟩]
theorem plain_len (P : List (Nat × UInt8)) : (joinL [47] (plainSeg P)).length ≤ 2 * P.length := by
  have h1 := wS_join (plainSeg P)
  have h2 : wS (plainSeg P) = 2 * P.length := by
    clear h1
    unfold wS plainSeg
    induction P with
    | nil => rfl
    | cons p P ih => simp at ih ⊢; omega
  omega
theorem dots_read {P : List (Nat × UInt8)} (h0 : P ≠ []) (hl : P.length ≤ 20) (hP : ∀ p ∈ P, isLow p.2 = true) :
    readP (slashL (plainSeg P)) [104] = some ⟨[104], slashL (plainSeg P), [], false⟩ ∧ readP (slashL (dotSeg P)) [104] = some ⟨[104], slashL (plainSeg P), [], false⟩ := by
  have hp0 : plainSeg P ≠ [] := by unfold plainSeg; simpa using h0
  have hd0 : dotSeg P ≠ [] := by
    cases P with
    | nil => exact absurd rfl h0
    | cons p P =>
      have := dotG_ne p
      unfold dotSeg
      simp [this]
  have hlen := plain_len P
  have e1 : settleL [] (plainSeg P) = plainSeg P := by
    rw [settle_plain _ _ (fun x hx => by
      unfold plainSeg at hx
      obtain ⟨p, hp, rfl⟩ := List.mem_map.1 hx
      exact dots_low (hP p hp)), List.nil_append]
  have e2 : settleL [] (dotSeg P) = plainSeg P := by rw [settle_dots P [] hP, List.nil_append]
  constructor
  · rw [slash_read hp0 (fun x hx c hc => by
      unfold plainSeg at hx
      obtain ⟨p, hp, rfl⟩ := List.mem_map.1 hx
      simp at hc; subst hc
      exact .inl (hP p hp)) (by rw [e1]; omega), e1, ← slash_join hp0]
  · rw [slash_read hd0 (fun x hx c hc => by
      unfold dotSeg at hx
      obtain ⟨p, hp, hx⟩ := List.mem_flatMap.1 hx
      have hlow := hP p hp
      unfold dotG at hx
      split at hx
      · simp only [List.mem_cons, List.not_mem_nil, or_false] at hx
        rcases hx with rfl | rfl
        · simp at hc; exact .inr hc
        · simp at hc; subst hc; exact .inl hlow
      · split at hx
        · simp only [List.mem_cons, List.not_mem_nil, or_false] at hx
          rcases hx with rfl | rfl | rfl
          · simp at hc; subst hc; exact .inl (by decide)
          · simp at hc; exact .inr hc
          · simp at hc; subst hc; exact .inl hlow
        · simp at hx; subst hx
          simp at hc; subst hc; exact .inl hlow) (by rw [e2]; omega), e2, ← slash_join hp0]
theorem dots_none : readP [47] [104] = some ⟨[104], [47], [], false⟩ ∧ readP [47, 46] [104] = some ⟨[104], [47], [], false⟩ := ⟨by kernel_rfl, by kernel_rfl⟩
end Go.Pantry

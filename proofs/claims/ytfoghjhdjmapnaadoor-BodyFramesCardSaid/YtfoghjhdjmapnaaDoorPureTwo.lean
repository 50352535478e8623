/-
  Plain mathematics of layer 1: lists one behind the other.
-/
import Derived.Test.YtfoghjhdjmapnaaDoorPureList
namespace Go.Pantry
theorem listL_step (l : List UInt8) : listL l =
    if trimL (l.take (cut false false l)) = [] then listL (l.drop (cut false false l + 1)) else trimL (l.take (cut false false l)) :: listL (l.drop (cut false false l + 1)) := by
  have h := list_at l 0
  simp only [List.drop_zero, Nat.zero_add] at h
  exact h
theorem cut_join (b : List UInt8) (a : List UInt8) (h : (34 : UInt8) ∉ a) : cut false false (a ++ 44 :: b) = cut false false a := by
  induction a with
  | nil => rw [List.nil_append, cut_comma, cut]
  | cons c a ih =>
    have hc : c ≠ 34 := fun e => h (by rw [e]; exact List.mem_cons_self ..)
    have ha : (34 : UInt8) ∉ a := fun e => h (List.mem_cons_of_mem _ e)
    by_cases h4 : c = 44
    · subst h4; rw [List.cons_append, cut_comma, cut_comma]
    · rw [List.cons_append, cut_other c _ h4 hc, cut_other c _ h4 hc, ih ha]
/-- Of two texts, the first without quotes, joined by a comma: the elements of both. -/
theorem listL_two (b : List UInt8) : ∀ (n : Nat) (a : List UInt8), a.length ≤ n → (34 : UInt8) ∉ a → listL (a ++ 44 :: b) = listL a ++ listL b := by
  intro n
  induction n with
  | zero =>
    intro a h hq
    have : a = [] := List.eq_nil_of_length_eq_zero (by omega)
    subst this
    rw [List.nil_append, listL_step, cut_comma, List.take_zero, trimL_nil, if_pos rfl, listL_nil]; rfl
  | succ n ih =>
    intro a h hq
    have hle := cut_le a false false
    have hcj := cut_join b a hq
    rw [listL_step (a ++ 44 :: b), hcj, List.take_append_of_le_length hle]
    by_cases hlt : cut false false a < a.length
    · have hd : (a ++ 44 :: b).drop (cut false false a + 1) = a.drop (cut false false a + 1) ++ 44 :: b := List.drop_append_of_le_length (by omega)
      have hi := ih (a.drop (cut false false a + 1)) (by rw [List.length_drop]; omega) (fun e => hq (List.mem_of_mem_drop e))
      rw [hd, hi, listL_step a]
      split <;> simp
    · have he : cut false false a = a.length := by omega
      have hd : (a ++ 44 :: b).drop (cut false false a + 1) = b := by
        rw [he]
        have e : a ++ 44 :: b = (a ++ [44]) ++ b := by simp
        rw [e, List.drop_left' (by simp)]
      rw [hd, listL_step a]
      have hn : a.drop (cut false false a + 1) = [] := List.drop_eq_nil_of_le (by omega)
      rw [hn, listL_nil]
      split <;> simp
/-- A blank ahead is none of a text. -/
theorem trim_blank (c : UInt8) (l : List UInt8) (h : isBl c = true) : trimL (c :: l) = trimL l := by
  have hp : [32, 9].contains c = true := by rw [isBl_contains]; exact h
  unfold trimL Lib.trimS Lib.trimLeftS Lib.trimRightS
  rw [List.reverse_cons, List.dropWhile_append]
  split
  · rename_i he
    have he' : l.reverse.dropWhile (fun x => [32, 9].contains x) = [] := by simpa using he
    rw [he', List.dropWhile_cons, if_pos hp]; rfl
  · rw [List.reverse_append, List.reverse_cons, List.reverse_nil, List.nil_append, List.cons_append, List.nil_append, List.dropWhile_cons, if_pos hp]
theorem cut_plain (l : List UInt8) (h : ∀ c ∈ l, c ≠ 44 ∧ c ≠ 34) : cut false false l = l.length := by
  induction l with
  | nil => rfl
  | cons c l ih =>
    have hc := h c (List.mem_cons_self ..)
    rw [cut_other c l hc.1 hc.2, ih (fun d hd => h d (List.mem_cons_of_mem _ hd)), List.length_cons]; omega
/-- A text without commas and quotes is one element, or none. -/
theorem listL_one (l : List UInt8) (h : ∀ c ∈ l, c ≠ 44 ∧ c ≠ 34) : listL l = if trimL l = [] then [] else [trimL l] := by
  rw [listL_step, cut_plain l h, List.take_of_length_le (Nat.le_refl _), List.drop_eq_nil_of_le (by omega), listL_nil]
end Go.Pantry

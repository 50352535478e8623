/-
  How much a config that was read holds; two configs that are the same.
-/
import Derived.Test.YtffenndchmcncaaGreatDoorLaw09A
namespace Go.Pantry
open Go.RowKit
theorem wordsF_len : ∀ (n : Nat) (s : List UInt8), (wordsF n s).length ≤ n
  | 0, s => Nat.le_refl _
  | n + 1, s => by
    rw [wordsF]; split
    · simp
    · rw [List.length_cons]; have := wordsF_len n (stepL s); omega
theorem textW_len (t : List UInt8) : (textW t).length ≤ t.length := Nat.le_trans (wordsF_len _ _) (skipL_le t false)
theorem ruleF_hsz : ∀ (k : Nat) (s : SiteM) (seen : List (List UInt8)) (p : Ps), hsz (ruleF k s seen p).1 (ruleF k s seen p).2 ≤ hsz s p
  | 0, s, seen, p => Nat.le_refl _
  | k + 1, s, seen, p => by
    rw [ruleF]; split
    · exact Nat.le_trans (ruleF_hsz k _ _ _) (rule_hsz s seen p)
    · exact Nat.le_refl _
theorem site_heads (hosts : List (List UInt8)) (p : Ps) : (siteM hosts p).1.heads.length ≤ p.ws.length := by
  have h1 := ruleF_hsz (meas (headM hosts p)) (site0 (hdW p)) [] (headM hosts p)
  have h2 := (fol_head hosts p).len
  unfold hsz at h1
  have h3 : (site0 (hdW p)).heads.length = 0 := rfl
  show (ruleF (meas (headM hosts p)) (site0 (hdW p)) [] (headM hosts p)).1.heads.length ≤ _
  omega
theorem cfgF_bound (M : Nat) : ∀ (k : Nat) (c : List SiteM) (hosts : List (List UInt8)) (p : Ps), p.ws.length ≤ M → (∀ s ∈ c, s.heads.length ≤ M) → (cfgF k c hosts p).1.length ≤ c.length + k ∧ ∀ s ∈ (cfgF k c hosts p).1, s.heads.length ≤ M
  | 0, c, hosts, p, _, hc => ⟨Nat.le_refl _, hc⟩
  | k + 1, c, hosts, p, hp, hc => by
    rw [cfgF]; split
    · have h1 := (fol_at c.length p).len
      have h2 := (fol_site hosts (atSite c.length p)).len
      have h3 := site_heads hosts (atSite c.length p)
      have := cfgF_bound M k (c ++ [(siteM hosts (atSite c.length p)).1]) (hdW (atSite c.length p) :: hosts) (siteM hosts (atSite c.length p)).2 (by omega) (fun s hs => by
        rcases List.mem_append.1 hs with e | e
        · exact hc s e
        · rw [List.mem_singleton] at e; subst e; omega)
      simp only [List.length_append, List.length_singleton] at this ⊢
      exact ⟨by omega, this.2⟩
    · exact ⟨by simp, hc⟩
theorem read_bounds (t : List UInt8) : (readM t).1.length ≤ 4097 ∧ ∀ s ∈ (readM t).1, s.heads.length ≤ 4096 := by
  by_cases h : 4096 < t.length
  · rw [readM_long h]; simp
  · rw [readM_short (by omega)]
    split
    · have h1 := textW_len t
      have h2 : meas (ps0 t) ≤ 4097 := by
        unfold meas
        split
        · show (textW t).length + 1 ≤ _; omega
        · omega
      have := cfgF_bound 4096 (meas (ps0 t)) [] [] (ps0 t) (show (textW t).length ≤ _ by omega) (fun s hs => absurd hs List.not_mem_nil)
      unfold cfgM
      simp only [List.length_nil] at this
      exact ⟨Nat.le_trans this.1 (by omega), this.2⟩
    · simp
theorem line_bound (t : List UInt8) : (readM t).2.2 ≤ 4097 := by
  by_cases h : 4096 < t.length
  · rw [readM_long h]; decide
  · rw [readM_short (by omega)]
    split
    · exact Nat.zero_le _
    · have := lineK_le t (cfgM t).2.pos; simp only; omega
theorem fault_line {t : List UInt8} (h : (readM t).2.1 = 0) : (readM t).2.2 = 0 := by
  by_cases h' : 4096 < t.length
  · rw [readM_long h'] at h; cases h
  · rw [readM_short (by omega)] at h ⊢
    split
    · rfl
    · rename_i hc; rw [if_neg hc] at h; exact absurd h hc
end Go.Pantry
namespace Go.Proofs.YtffenndchmcncaaGreatDoor
open Go.RowKit Go.Pantry

theorem zs_map (L : List (SiteM × Value)) : (zs L).map (·.1) = L.map (fun x => x.1.z) := by unfold zs; rw [List.map_map]; rfl
theorem zs_same {L1 L2 : List (SiteM × Value)} (h : L1.map (·.1) = L2.map (·.1)) : (zs L1).map (·.1) = (zs L2).map (·.1) := by
  rw [zs_map, zs_map]
  have := congrArg (List.map SiteM.z) h
  rw [List.map_map, List.map_map] at this
  exact this
theorem zs_len (L : List (SiteM × Value)) : (zs L).length = L.length := by unfold zs; simp
/-- a config that was read is not too much -/
theorem zs_few {T : List UInt8} {L : List (SiteM × Value)} (h : L.map (·.1) = (readM T).1) : (zs L).length ≤ 1000000 ∧ ∀ x ∈ zs L, x.1.heads.length ≤ 1000000 := by
  obtain ⟨b1, b2⟩ := read_bounds T
  refine ⟨?_, fun x hx => ?_⟩
  · rw [zs_len]
    have := congrArg List.length h
    rw [List.length_map] at this; omega
  · obtain ⟨y, hy, rfl⟩ := List.mem_map.1 hx
    have hm : y.1 ∈ (readM T).1 := by rw [← h]; exact List.mem_map.2 ⟨y, hy, rfl⟩
    have := b2 _ hm
    show y.1.heads.length ≤ _
    omega
theorem readsP_empty (w : World) (ao : Option Addr) (cap : Nat) : ReadsP w (.slice ao ([] : List (SiteM × Value)).length cap) (zs []) :=
  ⟨⟨ao, cap, rfl, fun j x h => by cases h⟩, fun x hx => absurd hx List.not_mem_nil⟩
theorem read_nil {t : List UInt8} (h : (readM t).2.1 ≠ 0) : (readM t).1 = [] := by
  by_cases h' : 4096 < t.length
  · rw [readM_long h']
  · rw [readM_short (by omega)] at h ⊢
    split
    · rename_i hc; rw [if_pos hc] at h; exact absurd rfl h
    · rfl
end Go.Proofs.YtffenndchmcncaaGreatDoor

/-
  How much a right config holds; of a config that was read.
-/
import Derived.Test.YtffenndchmcncaaGreatDoorConfS
import Derived.Test.YtffenndchmcncaaGreatDoorLaw09B
import Derived.Test.YtffenndchmcncaaGreatDoorPurePlan
namespace Go.Pantry
open Go.RowKit
theorem ownH_len {h : List UInt8} (ho : ownH h = true) : h.length ≤ 46 := by
  have hl : hostL h = some h := by unfold ownH at ho; simpa using ho
  unfold hostL at hl
  split at hl
  · cases hl
  · rename_i h1
    have h40 : (bef 58 h).length ≤ 40 := by
      by_cases e : 40 < (bef 58 h).length
      · exact absurd (.inr (.inl e)) h1
      · omega
    rcases bef_cases 58 h with ⟨_, e1, _, _⟩ | ⟨a, b, _, e1, e2, e3, _⟩
    · rw [e1] at h40; omega
    · rw [e2] at h40
      rw [e3] at hl
      rw [e1, List.length_append, List.length_cons]
      split at hl
      · rename_i hb; rw [hb]; simp; omega
      · split at hl
        · cases hl
        · rename_i h2
          have : b.length ≤ 5 := by
            by_cases e : 5 < b.length
            · exact absurd (.inl e) h2
            · omega
          omega
theorem mayM_len {heads : List (List UInt8)} {n : List UInt8} (h : mayM heads n = true) : n.length ≤ 64 := by
  unfold mayM nameOk at h
  simp only [Bool.and_eq_true, decide_eq_true_eq] at h
  exact h.1.2
theorem right_few {s : SiteZ} (h : rightZ s = true) : s.host.length ≤ 46 ∧ s.heads.length ≤ 4 ∧ ∀ y ∈ s.heads, y.length ≤ 64 := by
  obtain ⟨h1, _, _, h4⟩ := rightZ_iff.1 h
  obtain ⟨h5, h6⟩ := headsB_iff.1 h4
  refine ⟨ownH_len h1, h5, fun y hy => ?_⟩
  obtain ⟨j, hj⟩ := List.getElem?_of_mem hy
  exact mayM_len (h6 j y hj)
end Go.Pantry
namespace Go.Proofs.YtffenndchmcncaaGreatDoor
open Go.RowKit Go.Pantry

theorem few_of {L : List (SiteZ × Value)} (h : rightC (L.map (·.1)) = true) (hr : ∀ x ∈ L, Room x.2) : Few L := by
  obtain ⟨h8, h2, -⟩ := rightC_iff.1 h
  rw [List.length_map] at h8
  have each : ∀ x ∈ L, x.1.host.length ≤ 46 ∧ x.1.heads.length ≤ 4 ∧ ∀ y ∈ x.1.heads, y.length ≤ 64 := fun x hx => right_few (h2 _ (List.mem_map.2 ⟨x, hx, rfl⟩))
  exact ⟨by omega, hr, fun x hx => by have := (each x hx).1; omega, fun x hx => by have := (each x hx).2.1; omega, fun x hx y hy => by have := (each x hx).2.2 y hy; omega⟩
theorem room_own {w : World} {B : Nat} {e : TypeId} {size : Nat} {v : Value} {n : Nat} {xs : List Value} (h : w.ownsRow B e size v n xs) : Room v := by
  rcases h.2 with ⟨rfl, hn⟩ | ⟨g, cap, cur, rfl, hb, hg, hnc, hcm, hcs, htake⟩
  · exact room_of (Nat.le_refl _)
  · exact room_of hnc
theorem zs_rooms {w : World} {B : Nat} {sv : Value} {L : List (SiteM × Value)} (h : SitesAt w B sv L) : ∀ x ∈ zs L, Room x.2 := fun x hx => by
  obtain ⟨y, hy, rfl⟩ := List.mem_map.1 hx
  exact room_own (h.heads y hy)
theorem zs_right {T : List UInt8} {L : List (SiteM × Value)} (h : L.map (·.1) = (readM T).1) (h0 : (readM T).2.1 = 0) : rightC ((zs L).map (·.1)) = true := by
  have := read_right h0
  rw [← h, List.map_map] at this
  rw [zs_map]
  exact this
end Go.Proofs.YtffenndchmcncaaGreatDoor

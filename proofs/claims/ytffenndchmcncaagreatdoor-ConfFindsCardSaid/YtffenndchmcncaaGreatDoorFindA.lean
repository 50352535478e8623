/-
  Contracts: slices.Clone of texts; of package conf: Find.
-/
import Derived.Test.YtffenndchmcncaaGreatDoorLaw09B
namespace Go.Proofs.YtffenndchmcncaaGreatDoor
open Go.RowKit Go.Pantry

theorem run_eql_nil9 {P : Program} (w : World) (t e : TypeId) (a : Option Addr) (l c : Nat) (h : P.underlying t = some (.slice e)) : (binOp .eql t (.slice a l c) (.slice none 0 0)).run P w = .ok (.bool a.isNone) w := by
  have h1 : ∀ d : Nat, (Op.equalIn (d + 1) t (.slice a l c) (.slice none 0 0)).run P w = .ok a.isNone w := fun d => by
    cases a <;> simp [Op.equalIn, run_underlying h]
  simp only [binOp]
  simp [Op.equal, Op.maxDepth, h1 9999]
set_option maxRecDepth 8000 in
theorem cloneS_any (v : Value) (L : List (List UInt8)) (w : World) (h : Reads w v (L.map strV)) (hl : L.length ≤ 1000000) :
    Calls Tryz.prog 54 #[v] w fun e w' => ∃ v', e = .returned v' ∧ w'.ownsRow w.heap.size 9 1 v' L.length (L.map strV) ∧ Below w.heap.size w w' := by
  have HR := hid h
  obtain ⟨ao, cap, rfl, hc, hz⟩ := h
  have HC := hid hz
  rw [List.length_map] at HR ⊢
  cases ao with
  | none =>
    have hnil : L = [] := by
      cases L with
      | nil => rfl
      | cons y ys => obtain ⟨b, off, he, _⟩ := hc 0 _ rfl; cases he
    subst hnil
    obtain rfl := hz rfl
    have qn := fun W => run_eql_nil9 (P := Tryz.prog) W 40 9 none 0 0 Tryz.underlying40
    simp only [Option.isNone_none] at qn
    clear hc hz
    rw [List.length_nil]
    go_enter Tryz.func54, Tryz.ntmps54
    go_wp2_with fail
    go_ret
    exact ⟨_, rfl, World.ownsRow_nil _ _ _ _, Below.refl _ _⟩
  | some ad =>
    clear hc hz
    obtain ⟨n, hn⟩ : ∃ n, L.length = n := ⟨_, rfl⟩
    rw [hn] at HR hl
    have qn := fun W => run_eql_nil9 (P := Tryz.prog) W 40 9 (some ad) n cap Tryz.underlying40
    simp only [Option.isNone_some] at qn
    go_enter Tryz.func54, Tryz.ntmps54
    rw [hn]
    have hlit : (w.alloc (.cells #[] 9)).ownsRow w.heap.size 9 1 (.slice (some ⟨w.heap.size, 0, none⟩) 0 0) 0 [] := World.ownsRow_lit w #[] 0 (Nat.le_refl _) (by unfold maxLen; omega) rfl
    have hbW : Below w.heap.size w (w.alloc (.cells #[] 9)) := below_alloc _ _
    have hrW := HR.out.below hbW
    have h1 : ∀ u ∈ L.map strV, u.oneCell' = true := fun u hu => by
      obtain ⟨x, _, rfl⟩ := List.mem_map.1 hu; rfl
    have hln : 0 + (L.map strV).length < 4294967296 := by rw [List.length_map]; omega
    have HN9 := hid hn
    clear hn
    go_wp2_with (at_builtin; go_must (refine wpList_append_all _ rfl _ _ 40 rfl w.heap.size 9 Tryz.underlying40 infoStr rfl (by decide) rfl hlit hrW h1 rfl hln hbW.size ?_); intro v' w3 hown3 hg3 hb3)
    go_ret
    rw [List.nil_append] at hown3
    rw [List.length_map, Nat.zero_add, HN9.out] at hown3
    exact ⟨_, rfl, hown3, hbW.trans hb3⟩
end Go.Proofs.YtffenndchmcncaaGreatDoor

/-
  Plans: what a change of configs comes to; what is right; going back. No program is imported.
-/
import Derived.Test.YtffenndchmcncaaGreatDoorPureConf4
import Derived.Sort.KeysCollected
import Derived.Sort.Walk0
namespace Go.Pantry
open Go.RowKit

/-- a slice's value has room for what it is long -/
def Room (v : Value) : Prop := ∀ ao n c, v = .slice ao n c → n ≤ c
theorem Room.le {ao : Option Addr} {n c : Nat} (h : Room (.slice ao n c)) : n ≤ c := h _ _ _ rfl
theorem room_of {ao : Option Addr} {n c : Nat} (h : n ≤ c) : Room (.slice ao n c) := fun _ _ _ e => by cases e; exact h
theorem ltL_iff (a b : List UInt8) : ltL a b = decide (a < b) := Go.Proofs.bytesLess_eq a b
theorem lt_tri {a b : List UInt8} (h1 : ¬ a < b) (h2 : ¬ a = b) : b < a := by
  rcases List.le_total a b with h | h
  · exact absurd (List.le_antisymm h (List.not_lt.1 h1)) h2
  · rcases List.le_iff_lt_or_eq.1 h with h | h
    · exact h
    · exact absurd h.symm h2

/-- two sites' rules are the same -/
def sameR (a b : SiteZ) : Bool := a.origin == b.origin && a.min == b.min && a.max == b.max && a.query == b.query && a.keep == b.keep && a.heads == b.heads
theorem sameR_refl (a : SiteZ) : sameR a a = true := by simp [sameR]
theorem sameR_symm (a b : SiteZ) : sameR a b = sameR b a := by
  unfold sameR
  rw [Bool.beq_comm (a := a.origin), Bool.beq_comm (a := a.min), Bool.beq_comm (a := a.max), Bool.beq_comm (a := a.query), Bool.beq_comm (a := a.keep), Bool.beq_comm (a := a.heads)]
theorem sameR_eq {a b : SiteZ} (h : sameR a b = true) (hh : a.host = b.host) : a = b := by
  obtain ⟨a0, a1, a2, a3, a4, a5, a6⟩ := a
  obtain ⟨b0, b1, b2, b3, b4, b5, b6⟩ := b
  simp [sameR] at h
  obtain ⟨⟨⟨⟨⟨h1, h2⟩, h3⟩, h4⟩, h5⟩, h6⟩ := h
  simp at hh
  subst h1 h2 h3 h4 h5 h6 hh
  rfl
/-- the site of a host -/
def findS (A : List SiteZ) (h : List UInt8) : Option SiteZ := A.find? fun s => s.host == h
theorem findS_host {A : List SiteZ} {h : List UInt8} {s : SiteZ} (e : findS A h = some s) : s.host = h ∧ s ∈ A := by
  unfold findS at e
  have h1 := List.find?_some e
  simp only [beq_iff_eq] at h1
  exact ⟨h1, List.mem_of_find?_eq_some e⟩
theorem findS_none {A : List SiteZ} {h : List UInt8} : findS A h = none ↔ h ∉ A.map (·.host) := by
  unfold findS
  rw [List.find?_eq_none]
  simp only [beq_iff_eq, List.mem_map, not_exists, not_and]
theorem findS_some {A : List SiteZ} (hn : (A.map (·.host)).Nodup) {s : SiteZ} (h : s ∈ A) : findS A s.host = some s := by
  induction A with
  | nil => cases h
  | cons a A ih =>
    unfold findS
    rw [List.find?_cons]
    by_cases e : a.host = s.host
    · simp only [e, beq_self_eq_true]
      rcases List.mem_cons.1 h with rfl | h
      · rfl
      · rw [List.map_cons, List.nodup_cons] at hn
        exact absurd (by rw [e]; exact List.mem_map.2 ⟨s, h, rfl⟩) hn.1
    · have e' : (a.host == s.host) = false := by simpa using e
      rw [e']
      rcases List.mem_cons.1 h with rfl | h
      · exact absurd rfl e
      · rw [List.map_cons, List.nodup_cons] at hn
        exact ih hn.2 h
/-- the action of a site against a config -/
def kindP (A : List SiteZ) (s : SiteZ) : Nat := match findS A s.host with
  | none => 3
  | some o => if sameR o s then 0 else 1
/-- the action of a host that one of two configs has -/
def kindD (A B : List SiteZ) (h : List UInt8) : Nat := match findS B h with
  | none => 2
  | some s => kindP A s
/-- a host among others that rise -/
def riseL : List (List UInt8) → List UInt8 → List (List UInt8)
  | [], h => [h]
  | x :: l, h => if x < h then x :: riseL l h else if x = h then x :: l else h :: x :: l
theorem riseL_mem : ∀ (l : List (List UInt8)) (h x : List UInt8), x ∈ riseL l h ↔ x = h ∨ x ∈ l
  | [], h, x => by simp [riseL]
  | y :: l, h, x => by
    unfold riseL
    split
    · rw [List.mem_cons, riseL_mem l h x, List.mem_cons]
      constructor
      · rintro (h1 | h1 | h1)
        · exact .inr (.inl h1)
        · exact .inl h1
        · exact .inr (.inr h1)
      · rintro (h1 | h1 | h1)
        · exact .inr (.inl h1)
        · exact .inl h1
        · exact .inr (.inr h1)
    · split
      · rename_i h1 h2
        subst h2
        simp
      · simp
theorem riseL_sorted : ∀ (l : List (List UInt8)) (h : List UInt8), l.Pairwise (· < ·) → (riseL l h).Pairwise (· < ·)
  | [], h, _ => by simp [riseL]
  | y :: l, h, hp => by
    rw [List.pairwise_cons] at hp
    unfold riseL
    split
    · rename_i h1
      rw [List.pairwise_cons]
      refine ⟨fun x hx => ?_, riseL_sorted l h hp.2⟩
      rcases (riseL_mem l h x).1 hx with rfl | hx
      · exact h1
      · exact hp.1 x hx
    · split
      · exact List.pairwise_cons.2 hp
      · rename_i h1 h2
        rw [List.pairwise_cons]
        refine ⟨fun x hx => ?_, List.pairwise_cons.2 hp⟩
        have h3 := lt_tri h1 h2
        rcases List.mem_cons.1 hx with rfl | hx
        · exact h3
        · exact List.lt_trans h3 (hp.1 x hx)
/-- the hosts of two configs, rising -/
def hostsP (A B : List SiteZ) : List (List UInt8) := (B.map (·.host)).foldl riseL ((A.map (·.host)).foldl riseL [])
theorem foldPut_mem : ∀ (hs l : List (List UInt8)) (x : List UInt8), x ∈ hs.foldl riseL l ↔ x ∈ hs ∨ x ∈ l
  | [], l, x => by simp
  | h :: hs, l, x => by
    rw [List.foldl_cons, foldPut_mem hs _ x, riseL_mem, List.mem_cons]
    constructor
    · rintro (h1 | h1 | h1)
      · exact .inl (.inr h1)
      · exact .inl (.inl h1)
      · exact .inr h1
    · rintro ((h1 | h1) | h1)
      · exact .inr (.inl h1)
      · exact .inl h1
      · exact .inr (.inr h1)
theorem foldPut_sorted : ∀ (hs l : List (List UInt8)), l.Pairwise (· < ·) → (hs.foldl riseL l).Pairwise (· < ·)
  | [], l, h => h
  | h :: hs, l, hp => by rw [List.foldl_cons]; exact foldPut_sorted hs _ (riseL_sorted l h hp)
theorem hostsP_mem (A B : List SiteZ) (x : List UInt8) : x ∈ hostsP A B ↔ x ∈ B.map (·.host) ∨ x ∈ A.map (·.host) := by
  unfold hostsP
  rw [foldPut_mem, foldPut_mem]
  simp
theorem hostsP_sorted (A B : List SiteZ) : (hostsP A B).Pairwise (· < ·) := foldPut_sorted _ _ (foldPut_sorted _ _ List.Pairwise.nil)
theorem sorted_nodup {l : List (List UInt8)} (h : l.Pairwise (· < ·)) : l.Nodup := h.imp fun {a b} hab e => by subst e; exact List.lt_irrefl _ hab
/-- two rows that rise, of the same texts, are the same -/
theorem sorted_ext {l l' : List (List UInt8)} (h : l.Pairwise (· < ·)) (h' : l'.Pairwise (· < ·)) (hm : ∀ x, x ∈ l ↔ x ∈ l') : l = l' := by
  refine List.Perm.eq_of_pairwise (le := fun a b => a < b) (fun a b _ _ h1 h2 => absurd (List.lt_trans h1 h2) (List.lt_irrefl _)) h h' ?_
  exact (List.perm_ext_iff_of_nodup (sorted_nodup h) (sorted_nodup h')).2 hm
theorem mergeSort_sorted {l : List (List UInt8)} (h : l.Nodup) : (l.mergeSort leB).Pairwise (· < ·) := by
  have tr : ∀ a b c : List UInt8, leB a b = true → leB b c = true → leB a c = true := fun a b c h1 h2 => by simp only [leB, decide_eq_true_eq] at *; exact List.le_trans h1 h2
  have to : ∀ a b : List UInt8, (leB a b || leB b a) = true := fun a b => by simp only [leB, Bool.or_eq_true, decide_eq_true_eq]; exact List.le_total a b
  have h1 := List.pairwise_mergeSort tr to l
  have h2 : (l.mergeSort leB).Nodup := (List.mergeSort_perm l leB).nodup_iff.2 h
  refine (h1.and h2).imp fun {a b} hab => ?_
  obtain ⟨g1, g2⟩ := hab
  simp only [leB, decide_eq_true_eq] at g1
  rcases List.le_iff_lt_or_eq.1 g1 with g | g
  · exact g
  · exact absurd g g2
theorem hostsP_comm (A B : List SiteZ) : hostsP A B = hostsP B A :=
  sorted_ext (hostsP_sorted _ _) (hostsP_sorted _ _) fun x => by rw [hostsP_mem, hostsP_mem]; exact Or.comm
/-- the actions from a config to another one -/
abbrev ActM := Nat × List UInt8
def actsP (A B : List SiteZ) : List ActM := (hostsP A B).map fun h => (kindD A B h, h)
theorem actsP_len (A B : List SiteZ) : (actsP A B).length = (hostsP A B).length := by simp [actsP]
theorem kindP_le (A : List SiteZ) (s : SiteZ) : kindP A s < 4 := by unfold kindP; split <;> (try split) <;> omega
theorem kindD_le (A B : List SiteZ) (h : List UInt8) : kindD A B h < 4 := by
  unfold kindD
  split
  · omega
  · exact kindP_le _ _
/-- the same the other way round -/
def turnK (k : Nat) : Nat := if k = 2 then 3 else if k = 3 then 2 else k
theorem kindD_turn {A B : List SiteZ} {h : List UInt8} (hm : h ∈ hostsP A B) : kindD B A h = turnK (kindD A B h) := by
  rw [hostsP_mem] at hm
  unfold kindD
  cases e1 : findS A h with
  | none =>
    cases e2 : findS B h with
    | none => rw [findS_none] at e1 e2; rcases hm with h1 | h1; exact absurd h1 e2; exact absurd h1 e1
    | some s =>
      have := (findS_host e2).1
      simp only [kindP, this, e1]
      rfl
  | some o =>
    cases e2 : findS B h with
    | none =>
      have := (findS_host e1).1
      simp only [kindP, this, e2]
      rfl
    | some s =>
      have h1 := (findS_host e1).1
      have h2 := (findS_host e2).1
      simp only [kindP, h1, h2, e1, e2, sameR_symm s o]
      split <;> rfl
theorem kindD_self {A : List SiteZ} {h : List UInt8} (hm : h ∈ hostsP A A) : kindD A A h = 0 := by
  rw [hostsP_mem] at hm
  unfold kindD
  cases e1 : findS A h with
  | none => rw [findS_none] at e1; rcases hm with h1 | h1 <;> exact absurd h1 e1
  | some o =>
    have := (findS_host e1).1
    simp only [kindP, this, e1, sameR_refl, if_true]
theorem hostsP_self_len {A : List SiteZ} (hn : (A.map (·.host)).Nodup) : (hostsP A A).length = A.length := by
  have h1 : (hostsP A A).Perm (A.map (·.host)) := (List.perm_ext_iff_of_nodup (sorted_nodup (hostsP_sorted _ _)) hn).2 fun x => by rw [hostsP_mem]; exact or_self_iff
  rw [h1.length_eq, List.length_map]
theorem hostsP_len_le (A B : List SiteZ) : (hostsP A B).length ≤ A.length + B.length := by
  have h0 : ∀ (l : List (List UInt8)) (h : List UInt8), (riseL l h).length ≤ l.length + 1 := by
    intro l h
    induction l with
    | nil => simp [riseL]
    | cons x l ih =>
      unfold riseL
      split
      · simp; omega
      · split <;> simp
  have h1 : ∀ hs l : List (List UInt8), (hs.foldl riseL l).length ≤ l.length + hs.length := by
    intro hs
    induction hs with
    | nil => intro l; simp
    | cons h hs ih => intro l; rw [List.foldl_cons]; have := ih (riseL l h); have := h0 l h; simp; omega
  unfold hostsP
  have e1 := h1 (B.map (·.host)) ((A.map (·.host)).foldl riseL [])
  have e2 := h1 (A.map (·.host)) []
  simp at e1 e2
  omega

/-! tables -/
/-- since when a site is as it is, behind a table -/
def sinceN (g : Int) (T : List (SiteZ × Int)) (s : SiteZ) : Int := match T.find? (fun r => r.1.host == s.host) with
  | some r => if sameR r.1 s then r.2 else g
  | none => g
def nextL (g : Int) (T : List (SiteZ × Int)) (C : List SiteZ) : List (SiteZ × Int) := C.map fun s => (s, sinceN (g + 1) T s)
theorem nextL_sites (g : Int) (T : List (SiteZ × Int)) (C : List SiteZ) : (nextL g T C).map (·.1) = C := by
  unfold nextL
  rw [List.map_map]
  exact List.map_id'' (fun _ => rfl) C
theorem findT_map (T : List (SiteZ × Int)) (h : List UInt8) : findS (T.map (·.1)) h = (T.find? (fun r => r.1.host == h)).map (·.1) := by
  unfold findS
  rw [List.find?_map]
  rfl
theorem sinceN_kind (g : Int) (T : List (SiteZ × Int)) (s : SiteZ) : sinceN g T s = if kindP (T.map (·.1)) s = 0 then ((T.find? (fun r => r.1.host == s.host)).map (·.2)).getD g else g := by
  unfold sinceN kindP
  rw [findT_map]
  cases T.find? (fun r => r.1.host == s.host) with
  | none => rfl
  | some r =>
    simp only [Option.map_some, Option.getD_some]
    by_cases h : sameR r.1 s = true
    · rw [if_pos h, if_pos h, if_pos rfl]
    · rw [if_neg h, if_neg h, if_neg (by decide)]
/-- what a row of configs has come to: n of them, the last one is the table's; a site's number is the least since which all have it -/
structure Hist (was : List (List SiteZ)) (T : List (SiteZ × Int)) : Prop where
  some_ : was ≠ []
  last : was.getLast? = some (T.map (·.1))
  nodup : ((T.map (·.1)).map (·.host)).Nodup
  lo : ∀ r ∈ T, 1 ≤ r.2 ∧ r.2 ≤ ((was.length - 1 : Nat) : Int)
  since : ∀ r ∈ T, ∀ g : Nat, g < was.length → (r.2 ≤ (g : Int) ↔ ∀ k C, g ≤ k → was[k]? = some C → findS C r.1.host = some r.1)
theorem Hist.first : Hist [[]] [] := ⟨by simp, rfl, by simp, fun r h => absurd h List.not_mem_nil, fun r h => absurd h List.not_mem_nil⟩
theorem Hist.next {was : List (List SiteZ)} {T : List (SiteZ × Int)} (h : Hist was T) {C : List SiteZ} (hn : (C.map (·.host)).Nodup) : Hist (was ++ [C]) (nextL ((was.length - 1 : Nat) : Int) T C) := by
  have hw : 0 < was.length := List.length_pos_iff.2 h.some_
  have hlast : was[was.length - 1]? = some (T.map (·.1)) := by rw [← List.getLast?_eq_getElem?]; exact h.last
  have hat : ∀ k C', (was ++ [C])[k]? = some C' → (k < was.length ∧ was[k]? = some C') ∨ (k = was.length ∧ C' = C) := by
    intro k C' hk
    by_cases e : k < was.length
    · rw [List.getElem?_append_left e] at hk; exact .inl ⟨e, hk⟩
    · rw [List.getElem?_append_right (by omega)] at hk
      have hk0 : k - was.length = 0 := by
        have := (List.getElem?_eq_some_iff.1 hk).1
        simp at this; omega
      rw [hk0] at hk
      exact .inr ⟨by omega, by simpa using hk.symm⟩
  refine ⟨by simp, by rw [nextL_sites, List.getLast?_concat], by rw [nextL_sites]; exact hn, ?_, ?_⟩
  · intro r hr
    obtain ⟨s, hs, rfl⟩ := List.mem_map.1 hr
    show 1 ≤ sinceN _ T s ∧ sinceN _ T s ≤ _
    rw [List.length_append, List.length_singleton]
    unfold sinceN
    split
    · rename_i r he
      have hm := List.mem_of_find?_eq_some he
      have := h.lo r hm
      split <;> omega
    · omega
  · intro r hr g hg
    obtain ⟨s, hs, rfl⟩ := List.mem_map.1 hr
    rw [List.length_append, List.length_singleton] at hg
    show sinceN _ T s ≤ _ ↔ ∀ k C', g ≤ k → (was ++ [C])[k]? = some C' → findS C' s.host = some s
    unfold sinceN
    have hC := findS_some hn hs
    split
    · rename_i r he
      have hm := List.mem_of_find?_eq_some he
      have hhost : r.1.host = s.host := by simpa using List.find?_some he
      split
      · rename_i hsame
        have hrs : r.1 = s := sameR_eq hsame hhost
        have h0 := h.since r hm
        have h1 := h.lo r hm
        rw [hrs] at h0
        constructor
        · intro hle k C' hgk hk
          rcases hat k C' hk with ⟨e1, e2⟩ | ⟨e1, rfl⟩
          · exact (h0 g (by omega)).1 hle k C' hgk e2
          · exact hC
        · intro hall
          by_cases e : g < was.length
          · exact (h0 g e).2 fun k C' hgk hk => hall k C' hgk (by rw [List.getElem?_append_left (List.getElem?_eq_some_iff.1 hk).1]; exact hk)
          · omega
      · rename_i hne
        constructor
        · intro hle k C' hgk hk
          rcases hat k C' hk with ⟨e1, e2⟩ | ⟨e1, rfl⟩
          · omega
          · exact hC
        · intro hall
          by_cases e : g < was.length
          · exfalso
            have := hall (was.length - 1) _ (by omega) (by rw [List.getElem?_append_left (by omega)]; exact hlast)
            rw [findT_map, he] at this
            simp only [Option.map_some, Option.some.injEq] at this
            rw [this] at hne
            exact hne (sameR_refl s)
          · omega
    · rename_i he
      constructor
      · intro hle k C' hgk hk
        rcases hat k C' hk with ⟨e1, e2⟩ | ⟨e1, rfl⟩
        · omega
        · exact hC
      · intro hall
        by_cases e : g < was.length
        · exfalso
          have := hall (was.length - 1) _ (by omega) (by rw [List.getElem?_append_left (by omega)]; exact hlast)
          rw [findT_map, he] at this
          cases this
        · omega
end Go.Pantry
namespace Go.Pantry
open Go.RowKit

def headsB (hs : List (List UInt8)) : Bool := decide (hs.length ≤ 4) && (List.range hs.length).all fun j => mayM (hs.take j) (hs.getD j [])
def rightZ (s : SiteZ) : Bool := ownH s.host && (decide (1 ≤ s.origin) && decide (s.origin ≤ 9)) && (decide (0 ≤ s.min) && decide (s.min ≤ s.max) && decide (s.max ≤ 2147483648)) && headsB s.heads
def okAt (L : List SiteZ) (k : Nat) : Bool := match L[k]? with
  | none => true
  | some s => rightZ s && !((L.take k).any fun x => x.host == s.host)
def rightC (L : List SiteZ) : Bool := decide (L.length ≤ 8) && (List.range L.length).all (okAt L)
def rightT (g : Int) (T : List (SiteZ × Int)) : Bool := (decide (0 ≤ g) && decide (g ≤ 253402300799)) && (T.all (fun r => decide (1 ≤ r.2) && decide (r.2 ≤ g)) && rightC (T.map (·.1)))
theorem headsB_all {hs : List (List UInt8)} (h4 : hs.length ≤ 4) (h : ∀ j x, hs[j]? = some x → mayM (hs.take j) x = true) : headsB hs = true := by
  unfold headsB
  rw [decide_eq_true h4, Bool.true_and, List.all_eq_true]
  intro j hj
  have hjl := List.mem_range.1 hj
  have := h j _ (List.getElem?_eq_getElem hjl)
  rw [List.getD, List.getElem?_eq_getElem hjl]
  exact this
theorem headsB_not {hs : List (List UInt8)} {j : Nat} {x : List UInt8} (hj : hs[j]? = some x) (h : mayM (hs.take j) x = false) : headsB hs = false := by
  unfold headsB
  rw [Bool.and_eq_false_iff]
  right
  rw [List.all_eq_false]
  refine ⟨j, List.mem_range.2 (List.getElem?_eq_some_iff.1 hj).1, ?_⟩
  rw [List.getD, hj, Option.getD_some, h]
  decide
theorem headsB_long {hs : List (List UInt8)} (h4 : 4 < hs.length) : headsB hs = false := by
  unfold headsB
  rw [decide_eq_false (by omega), Bool.false_and]
theorem headsB_iff {hs : List (List UInt8)} : headsB hs = true ↔ hs.length ≤ 4 ∧ ∀ j x, hs[j]? = some x → mayM (hs.take j) x = true := by
  constructor
  · intro h
    by_cases h4 : hs.length ≤ 4
    · refine ⟨h4, fun j x hj => ?_⟩
      cases e : mayM (hs.take j) x with
      | true => rfl
      | false => rw [headsB_not hj e] at h; cases h
    · rw [headsB_long (by omega)] at h; cases h
  · rintro ⟨h1, h2⟩
    exact headsB_all h1 h2
theorem rightC_all {L : List SiteZ} (h8 : L.length ≤ 8) (h : ∀ k s, L[k]? = some s → rightZ s = true ∧ ((L.take k).any fun x => x.host == s.host) = false) : rightC L = true := by
  unfold rightC
  rw [decide_eq_true h8, Bool.true_and, List.all_eq_true]
  intro k hk
  have hkl := List.mem_range.1 hk
  obtain ⟨h1, h2⟩ := h k _ (List.getElem?_eq_getElem hkl)
  unfold okAt
  rw [List.getElem?_eq_getElem hkl]
  simp only [h1, h2]
  rfl
theorem rightC_not {L : List SiteZ} {k : Nat} {s : SiteZ} (hk : L[k]? = some s) (h : rightZ s = false ∨ ((L.take k).any fun x => x.host == s.host) = true) : rightC L = false := by
  unfold rightC
  rw [Bool.and_eq_false_iff]
  right
  rw [List.all_eq_false]
  refine ⟨k, List.mem_range.2 (List.getElem?_eq_some_iff.1 hk).1, ?_⟩
  unfold okAt
  rw [hk]
  simp only
  rcases h with h | h <;> rw [h] <;> simp
theorem rightC_long {L : List SiteZ} (h : 8 < L.length) : rightC L = false := by
  unfold rightC
  rw [decide_eq_false (by omega), Bool.false_and]
theorem rightC_iff {L : List SiteZ} : rightC L = true ↔ L.length ≤ 8 ∧ (∀ s ∈ L, rightZ s = true) ∧ (L.map (·.host)).Nodup := by
  constructor
  · intro h
    by_cases h8 : L.length ≤ 8
    · have each : ∀ k s, L[k]? = some s → rightZ s = true ∧ ((L.take k).any fun x => x.host == s.host) = false := by
        intro k s hk
        cases e1 : rightZ s with
        | false => rw [rightC_not hk (.inl e1)] at h; cases h
        | true =>
          cases e2 : (L.take k).any fun x => x.host == s.host with
          | true => rw [rightC_not hk (.inr e2)] at h; cases h
          | false => exact ⟨rfl, rfl⟩
      refine ⟨h8, fun s hs => ?_, ?_⟩
      · obtain ⟨k, hk⟩ := List.getElem?_of_mem hs
        exact (each k s hk).1
      · rw [List.nodup_iff_pairwise_ne, List.pairwise_map, List.pairwise_iff_getElem]
        intro i j hi hj hij e
        have h2 := (each j _ (List.getElem?_eq_getElem hj)).2
        rw [List.any_eq_false] at h2
        have h3 := h2 L[i] (List.mem_of_getElem? (i := i) (by rw [List.getElem?_take, if_pos hij]; exact List.getElem?_eq_getElem hi))
        simp [e] at h3
    · rw [rightC_long (by omega)] at h; cases h
  · rintro ⟨h1, h2, h3⟩
    refine rightC_all h1 fun k s hk => ⟨h2 s (List.mem_of_getElem? hk), ?_⟩
    rw [List.any_eq_false]
    intro x hx e
    obtain ⟨i, hi⟩ := List.getElem?_of_mem hx
    rw [List.getElem?_take] at hi
    split at hi
    · rename_i hik
      rw [List.nodup_iff_pairwise_ne, List.pairwise_map, List.pairwise_iff_getElem] at h3
      obtain ⟨hil, rfl⟩ := List.getElem?_eq_some_iff.1 hi
      obtain ⟨hkl, rfl⟩ := List.getElem?_eq_some_iff.1 hk
      exact h3 i k hil hkl hik (by simpa using e)
    · cases hi
theorem rightC_nil : rightC [] = true := rightC_iff.2 ⟨by simp, fun s h => absurd h List.not_mem_nil, by simp⟩
theorem rightT_iff {g : Int} {T : List (SiteZ × Int)} : rightT g T = true ↔ (0 ≤ g ∧ g ≤ 253402300799) ∧ (∀ r ∈ T, 1 ≤ r.2 ∧ r.2 ≤ g) ∧ rightC (T.map (·.1)) = true := by
  unfold rightT
  simp only [Bool.and_eq_true, decide_eq_true_eq, List.all_eq_true]
theorem sinceN_le {g : Int} {T : List (SiteZ × Int)} (h : ∀ r ∈ T, 1 ≤ r.2 ∧ r.2 ≤ g) (hg : 0 ≤ g) (s : SiteZ) : 1 ≤ sinceN (g + 1) T s ∧ sinceN (g + 1) T s ≤ g + 1 := by
  unfold sinceN
  split
  · rename_i r he
    have := h r (List.mem_of_find?_eq_some he)
    split <;> omega
  · omega
theorem nextL_right {g : Int} {T : List (SiteZ × Int)} {C : List SiteZ} (h : rightT g T = true) (hC : rightC C = true) (hg : g < 253402300799) : rightT (g + 1) (nextL g T C) = true := by
  obtain ⟨h1, h2, h3⟩ := rightT_iff.1 h
  refine rightT_iff.2 ⟨by omega, fun r hr => ?_, by rw [nextL_sites]; exact hC⟩
  obtain ⟨s, hs, rfl⟩ := List.mem_map.1 hr
  exact sinceN_le h2 h1.1 s
theorem nextL_find (g : Int) (T : List (SiteZ × Int)) (C : List SiteZ) (h : List UInt8) : (nextL g T C).find? (fun r => r.1.host == h) = (findS C h).map fun s => (s, sinceN (g + 1) T s) := by
  unfold nextL findS
  rw [List.find?_map]
  rfl
/-- behind two changes, there and back -/
theorem back_new {g : Int} {T : List (SiteZ × Int)} {C : List SiteZ} {h : List UInt8} (hk : kindD (T.map (·.1)) C h = 3) : (nextL (g + 1) (nextL g T C) (T.map (·.1))).find? (fun r => r.1.host == h) = none := by
  rw [nextL_find, Option.map_eq_none_iff]
  unfold kindD at hk
  split at hk
  · cases hk
  · rename_i s hs
    unfold kindP at hk
    rw [(findS_host hs).1] at hk
    split at hk
    · assumption
    · split at hk <;> cases hk
theorem back_there {g : Int} {T : List (SiteZ × Int)} {C : List SiteZ} {h : List UInt8} (hm : h ∈ hostsP (T.map (·.1)) C) (hk : kindD (T.map (·.1)) C h ≠ 3) :
    ∃ r r', T.find? (fun r => r.1.host == h) = some r ∧ (nextL (g + 1) (nextL g T C) (T.map (·.1))).find? (fun r => r.1.host == h) = some r' ∧
      (kindD (T.map (·.1)) C h = 0 → r'.2 = r.2) ∧ (kindD (T.map (·.1)) C h = 1 ∨ kindD (T.map (·.1)) C h = 2 → r'.2 = g + 2) := by
  rw [nextL_find, findT_map]
  rw [hostsP_mem] at hm
  cases e1 : T.find? (fun r => r.1.host == h) with
  | none =>
    exfalso
    have e2 : findS (T.map (·.1)) h = none := by rw [findT_map, e1]; rfl
    have e3 : ¬ findS C h = none := fun e => by
      rw [findS_none] at e e2
      rcases hm with h1 | h1
      · exact e h1
      · exact e2 h1
    obtain ⟨s, hs⟩ := Option.ne_none_iff_exists'.1 e3
    apply hk
    unfold kindD
    rw [hs]
    simp only [kindP, (findS_host hs).1, e2]
  | some r =>
    have hrh : r.1.host = h := by simpa using List.find?_some e1
    refine ⟨r, (r.1, sinceN (g + 1 + 1) (nextL g T C) r.1), rfl, rfl, ?_, ?_⟩
    · intro h0
      show sinceN _ _ _ = _
      unfold sinceN
      rw [nextL_find, hrh]
      unfold kindD at h0
      cases e2 : findS C h with
      | none => rw [e2] at h0; cases h0
      | some s =>
        rw [e2] at h0
        have hsh := (findS_host e2).1
        simp only [kindP, hsh, findT_map, e1, Option.map_some] at h0
        have hs1 : sameR r.1 s = true := by
          cases e : sameR r.1 s with
          | true => rfl
          | false => rw [e] at h0; cases h0
        simp only [Option.map_some, sameR_symm s r.1, hs1, if_true]
        unfold sinceN
        rw [hsh, e1]
        simp only [hs1, if_true]
    · intro h0
      show sinceN _ _ _ = _
      unfold sinceN
      rw [nextL_find, hrh]
      unfold kindD at h0
      cases e2 : findS C h with
      | none => simp only [Option.map_none]; omega
      | some s =>
        rw [e2] at h0
        have hsh := (findS_host e2).1
        simp only [kindP, hsh, findT_map, e1, Option.map_some] at h0
        have hs1 : sameR r.1 s = false := by
          cases e : sameR r.1 s with
          | false => rfl
          | true => rw [e] at h0; rcases h0 with h0 | h0 <;> cases h0
        simp only [Option.map_some, sameR_symm s r.1, hs1]
        rw [if_neg (by decide)]; omega
end Go.Pantry

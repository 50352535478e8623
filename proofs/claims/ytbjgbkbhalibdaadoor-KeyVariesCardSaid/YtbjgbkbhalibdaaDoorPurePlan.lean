/-
  Plans; a right config's plain text, that it is read as it, and that what is read is right. No program is imported.
-/
import Derived.Test.YtbjgbkbhalibdaaDoorPureAll3
import Derived.Sort.KeysCollected
import Derived.Sort.Walk0
namespace Go.Pantry
open Go.RowKit

/-- a slice's value has room for what it is long -/
def Room (v : Value) : Prop := ∀ ao n c, v = .slice ao n c → n ≤ c
theorem Room.le {ao : Option Addr} {n c : Nat} (h : Room (.slice ao n c)) : n ≤ c := h _ _ _ rfl
theorem room_of {ao : Option Addr} {n c : Nat} (h : n ≤ c) : Room (.slice ao n c) := fun _ _ _ e => by cases e; exact h
theorem ltL_iff (a b : List UInt8) : ltL a b = decide (a < b) := Go.Proofs.bytesLess_eq a b
theorem lt_tri {a b : List UInt8} (h1 : ¬ a < b) (h2 : ¬ a = b) : b < a := by
  rcases List.le_total a b with h | h
  · exact absurd (List.le_antisymm h (List.not_lt.1 h1)) h2
  · rcases List.le_iff_lt_or_eq.1 h with h | h
    · exact h
    · exact absurd h.symm h2

/-- two sites' rules are the same -/
def sameR (a b : SiteZ) : Bool := a.origin == b.origin && a.min == b.min && a.max == b.max && a.query == b.query && a.keep == b.keep && a.heads == b.heads
theorem sameR_refl (a : SiteZ) : sameR a a = true := by simp [sameR]
theorem sameR_symm (a b : SiteZ) : sameR a b = sameR b a := by
  unfold sameR
  rw [Bool.beq_comm (a := a.origin), Bool.beq_comm (a := a.min), Bool.beq_comm (a := a.max), Bool.beq_comm (a := a.query), Bool.beq_comm (a := a.keep), Bool.beq_comm (a := a.heads)]
theorem sameR_eq {a b : SiteZ} (h : sameR a b = true) (hh : a.host = b.host) : a = b := by
  obtain ⟨a0, a1, a2, a3, a4, a5, a6⟩ := a
  obtain ⟨b0, b1, b2, b3, b4, b5, b6⟩ := b
  simp [sameR] at h
  obtain ⟨⟨⟨⟨⟨h1, h2⟩, h3⟩, h4⟩, h5⟩, h6⟩ := h
  simp at hh
  subst h1 h2 h3 h4 h5 h6 hh
  rfl
/-- the site of a host -/
def findS (A : List SiteZ) (h : List UInt8) : Option SiteZ := A.find? fun s => s.host == h
theorem findS_host {A : List SiteZ} {h : List UInt8} {s : SiteZ} (e : findS A h = some s) : s.host = h ∧ s ∈ A := by
  unfold findS at e
  have h1 := List.find?_some e
  simp only [beq_iff_eq] at h1
  exact ⟨h1, List.mem_of_find?_eq_some e⟩
theorem findS_none {A : List SiteZ} {h : List UInt8} : findS A h = none ↔ h ∉ A.map (·.host) := by
  unfold findS
  rw [List.find?_eq_none]
  simp only [beq_iff_eq, List.mem_map, not_exists, not_and]
theorem findS_some {A : List SiteZ} (hn : (A.map (·.host)).Nodup) {s : SiteZ} (h : s ∈ A) : findS A s.host = some s := by
  induction A with
  | nil => cases h
  | cons a A ih =>
    unfold findS
    rw [List.find?_cons]
    by_cases e : a.host = s.host
    · simp only [e, beq_self_eq_true]
      rcases List.mem_cons.1 h with rfl | h
      · rfl
      · rw [List.map_cons, List.nodup_cons] at hn
        exact absurd (by rw [e]; exact List.mem_map.2 ⟨s, h, rfl⟩) hn.1
    · have e' : (a.host == s.host) = false := by simpa using e
      rw [e']
      rcases List.mem_cons.1 h with rfl | h
      · exact absurd rfl e
      · rw [List.map_cons, List.nodup_cons] at hn
        exact ih hn.2 h
/-- the action of a site against a config -/
def kindP (A : List SiteZ) (s : SiteZ) : Nat := match findS A s.host with
  | none => 3
  | some o => if sameR o s then 0 else 1
/-- the action of a host that one of two configs has -/
def kindD (A B : List SiteZ) (h : List UInt8) : Nat := match findS B h with
  | none => 2
  | some s => kindP A s
/-- a host among others that rise -/
def riseL : List (List UInt8) → List UInt8 → List (List UInt8)
  | [], h => [h]
  | x :: l, h => if x < h then x :: riseL l h else if x = h then x :: l else h :: x :: l
theorem riseL_mem : ∀ (l : List (List UInt8)) (h x : List UInt8), x ∈ riseL l h ↔ x = h ∨ x ∈ l
  | [], h, x => by simp [riseL]
  | y :: l, h, x => by
    unfold riseL
    split
    · rw [List.mem_cons, riseL_mem l h x, List.mem_cons]
      constructor
      · rintro (h1 | h1 | h1)
        · exact .inr (.inl h1)
        · exact .inl h1
        · exact .inr (.inr h1)
      · rintro (h1 | h1 | h1)
        · exact .inr (.inl h1)
        · exact .inl h1
        · exact .inr (.inr h1)
    · split
      · rename_i h1 h2
        subst h2
        simp
      · simp
theorem riseL_sorted : ∀ (l : List (List UInt8)) (h : List UInt8), l.Pairwise (· < ·) → (riseL l h).Pairwise (· < ·)
  | [], h, _ => by simp [riseL]
  | y :: l, h, hp => by
    rw [List.pairwise_cons] at hp
    unfold riseL
    split
    · rename_i h1
      rw [List.pairwise_cons]
      refine ⟨fun x hx => ?_, riseL_sorted l h hp.2⟩
      rcases (riseL_mem l h x).1 hx with rfl | hx
      · exact h1
      · exact hp.1 x hx
    · split
      · exact List.pairwise_cons.2 hp
      · rename_i h1 h2
        rw [List.pairwise_cons]
        refine ⟨fun x hx => ?_, List.pairwise_cons.2 hp⟩
        have h3 := lt_tri h1 h2
        rcases List.mem_cons.1 hx with rfl | hx
        · exact h3
        · exact List.lt_trans h3 (hp.1 x hx)
/-- the hosts of two configs, rising -/
def hostsP (A B : List SiteZ) : List (List UInt8) := (B.map (·.host)).foldl riseL ((A.map (·.host)).foldl riseL [])
theorem foldPut_mem : ∀ (hs l : List (List UInt8)) (x : List UInt8), x ∈ hs.foldl riseL l ↔ x ∈ hs ∨ x ∈ l
  | [], l, x => by simp
  | h :: hs, l, x => by
    rw [List.foldl_cons, foldPut_mem hs _ x, riseL_mem, List.mem_cons]
    constructor
    · rintro (h1 | h1 | h1)
      · exact .inl (.inr h1)
      · exact .inl (.inl h1)
      · exact .inr h1
    · rintro ((h1 | h1) | h1)
      · exact .inr (.inl h1)
      · exact .inl h1
      · exact .inr (.inr h1)
theorem foldPut_sorted : ∀ (hs l : List (List UInt8)), l.Pairwise (· < ·) → (hs.foldl riseL l).Pairwise (· < ·)
  | [], l, h => h
  | h :: hs, l, hp => by rw [List.foldl_cons]; exact foldPut_sorted hs _ (riseL_sorted l h hp)
theorem hostsP_mem (A B : List SiteZ) (x : List UInt8) : x ∈ hostsP A B ↔ x ∈ B.map (·.host) ∨ x ∈ A.map (·.host) := by
  unfold hostsP
  rw [foldPut_mem, foldPut_mem]
  simp
theorem hostsP_sorted (A B : List SiteZ) : (hostsP A B).Pairwise (· < ·) := foldPut_sorted _ _ (foldPut_sorted _ _ List.Pairwise.nil)
theorem sorted_nodup {l : List (List UInt8)} (h : l.Pairwise (· < ·)) : l.Nodup := h.imp fun {a b} hab e => by subst e; exact List.lt_irrefl _ hab
/-- two rows that rise, of the same texts, are the same -/
theorem sorted_ext {l l' : List (List UInt8)} (h : l.Pairwise (· < ·)) (h' : l'.Pairwise (· < ·)) (hm : ∀ x, x ∈ l ↔ x ∈ l') : l = l' := by
  refine List.Perm.eq_of_pairwise (le := fun a b => a < b) (fun a b _ _ h1 h2 => absurd (List.lt_trans h1 h2) (List.lt_irrefl _)) h h' ?_
  exact (List.perm_ext_iff_of_nodup (sorted_nodup h) (sorted_nodup h')).2 hm
theorem mergeSort_sorted {l : List (List UInt8)} (h : l.Nodup) : (l.mergeSort leB).Pairwise (· < ·) := by
  have tr : ∀ a b c : List UInt8, leB a b = true → leB b c = true → leB a c = true := fun a b c h1 h2 => by simp only [leB, decide_eq_true_eq] at *; exact List.le_trans h1 h2
  have to : ∀ a b : List UInt8, (leB a b || leB b a) = true := fun a b => by simp only [leB, Bool.or_eq_true, decide_eq_true_eq]; exact List.le_total a b
  have h1 := List.pairwise_mergeSort tr to l
  have h2 : (l.mergeSort leB).Nodup := (List.mergeSort_perm l leB).nodup_iff.2 h
  refine (h1.and h2).imp fun {a b} hab => ?_
  obtain ⟨g1, g2⟩ := hab
  simp only [leB, decide_eq_true_eq] at g1
  rcases List.le_iff_lt_or_eq.1 g1 with g | g
  · exact g
  · exact absurd g g2
theorem hostsP_comm (A B : List SiteZ) : hostsP A B = hostsP B A :=
  sorted_ext (hostsP_sorted _ _) (hostsP_sorted _ _) fun x => by rw [hostsP_mem, hostsP_mem]; exact Or.comm
/-- the actions from a config to another one -/
abbrev ActM := Nat × List UInt8
def actsP (A B : List SiteZ) : List ActM := (hostsP A B).map fun h => (kindD A B h, h)
theorem actsP_len (A B : List SiteZ) : (actsP A B).length = (hostsP A B).length := by simp [actsP]
theorem kindP_le (A : List SiteZ) (s : SiteZ) : kindP A s < 4 := by unfold kindP; split <;> (try split) <;> omega
theorem kindD_le (A B : List SiteZ) (h : List UInt8) : kindD A B h < 4 := by
  unfold kindD
  split
  · omega
  · exact kindP_le _ _
/-- the same the other way round -/
def turnK (k : Nat) : Nat := if k = 2 then 3 else if k = 3 then 2 else k
theorem kindD_turn {A B : List SiteZ} {h : List UInt8} (hm : h ∈ hostsP A B) : kindD B A h = turnK (kindD A B h) := by
  rw [hostsP_mem] at hm
  unfold kindD
  cases e1 : findS A h with
  | none =>
    cases e2 : findS B h with
    | none => rw [findS_none] at e1 e2; rcases hm with h1 | h1; exact absurd h1 e2; exact absurd h1 e1
    | some s =>
      have := (findS_host e2).1
      simp only [kindP, this, e1]
      rfl
  | some o =>
    cases e2 : findS B h with
    | none =>
      have := (findS_host e1).1
      simp only [kindP, this, e2]
      rfl
    | some s =>
      have h1 := (findS_host e1).1
      have h2 := (findS_host e2).1
      simp only [kindP, h1, h2, e1, e2, sameR_symm s o]
      split <;> rfl
theorem kindD_self {A : List SiteZ} {h : List UInt8} (hm : h ∈ hostsP A A) : kindD A A h = 0 := by
  rw [hostsP_mem] at hm
  unfold kindD
  cases e1 : findS A h with
  | none => rw [findS_none] at e1; rcases hm with h1 | h1 <;> exact absurd h1 e1
  | some o =>
    have := (findS_host e1).1
    simp only [kindP, this, e1, sameR_refl, if_true]
theorem hostsP_self_len {A : List SiteZ} (hn : (A.map (·.host)).Nodup) : (hostsP A A).length = A.length := by
  have h1 : (hostsP A A).Perm (A.map (·.host)) := (List.perm_ext_iff_of_nodup (sorted_nodup (hostsP_sorted _ _)) hn).2 fun x => by rw [hostsP_mem]; exact or_self_iff
  rw [h1.length_eq, List.length_map]
theorem hostsP_len_le (A B : List SiteZ) : (hostsP A B).length ≤ A.length + B.length := by
  have h0 : ∀ (l : List (List UInt8)) (h : List UInt8), (riseL l h).length ≤ l.length + 1 := by
    intro l h
    induction l with
    | nil => simp [riseL]
    | cons x l ih =>
      unfold riseL
      split
      · simp; omega
      · split <;> simp
  have h1 : ∀ hs l : List (List UInt8), (hs.foldl riseL l).length ≤ l.length + hs.length := by
    intro hs
    induction hs with
    | nil => intro l; simp
    | cons h hs ih => intro l; rw [List.foldl_cons]; have := ih (riseL l h); have := h0 l h; simp; omega
  unfold hostsP
  have e1 := h1 (B.map (·.host)) ((A.map (·.host)).foldl riseL [])
  have e2 := h1 (A.map (·.host)) []
  simp at e1 e2
  omega

/-! tables -/
/-- since when a site is as it is, behind a table -/
def sinceN (g : Int) (T : List (SiteZ × Int)) (s : SiteZ) : Int := match T.find? (fun r => r.1.host == s.host) with
  | some r => if sameR r.1 s then r.2 else g
  | none => g
def nextL (g : Int) (T : List (SiteZ × Int)) (C : List SiteZ) : List (SiteZ × Int) := C.map fun s => (s, sinceN (g + 1) T s)
theorem nextL_sites (g : Int) (T : List (SiteZ × Int)) (C : List SiteZ) : (nextL g T C).map (·.1) = C := by
  unfold nextL
  rw [List.map_map]
  exact List.map_id'' (fun _ => rfl) C
theorem findT_map (T : List (SiteZ × Int)) (h : List UInt8) : findS (T.map (·.1)) h = (T.find? (fun r => r.1.host == h)).map (·.1) := by
  unfold findS
  rw [List.find?_map]
  rfl
theorem sinceN_kind (g : Int) (T : List (SiteZ × Int)) (s : SiteZ) : sinceN g T s = if kindP (T.map (·.1)) s = 0 then ((T.find? (fun r => r.1.host == s.host)).map (·.2)).getD g else g := by
  unfold sinceN kindP
  rw [findT_map]
  cases T.find? (fun r => r.1.host == s.host) with
  | none => rfl
  | some r =>
    simp only [Option.map_some, Option.getD_some]
    by_cases h : sameR r.1 s = true
    · rw [if_pos h, if_pos h, if_pos rfl]
    · rw [if_neg h, if_neg h, if_neg (by decide)]
/-- what a row of configs has come to: n of them, the last one is the table's; a site's number is the least since which all have it -/
structure Hist (was : List (List SiteZ)) (T : List (SiteZ × Int)) : Prop where
  some_ : was ≠ []
  last : was.getLast? = some (T.map (·.1))
  nodup : ((T.map (·.1)).map (·.host)).Nodup
  lo : ∀ r ∈ T, 1 ≤ r.2 ∧ r.2 ≤ ((was.length - 1 : Nat) : Int)
  since : ∀ r ∈ T, ∀ g : Nat, g < was.length → (r.2 ≤ (g : Int) ↔ ∀ k C, g ≤ k → was[k]? = some C → findS C r.1.host = some r.1)
theorem Hist.first : Hist [[]] [] := ⟨by simp, rfl, by simp, fun r h => absurd h List.not_mem_nil, fun r h => absurd h List.not_mem_nil⟩
theorem Hist.next {was : List (List SiteZ)} {T : List (SiteZ × Int)} (h : Hist was T) {C : List SiteZ} (hn : (C.map (·.host)).Nodup) : Hist (was ++ [C]) (nextL ((was.length - 1 : Nat) : Int) T C) := by
  have hw : 0 < was.length := List.length_pos_iff.2 h.some_
  have hlast : was[was.length - 1]? = some (T.map (·.1)) := by rw [← List.getLast?_eq_getElem?]; exact h.last
  have hat : ∀ k C', (was ++ [C])[k]? = some C' → (k < was.length ∧ was[k]? = some C') ∨ (k = was.length ∧ C' = C) := by
    intro k C' hk
    by_cases e : k < was.length
    · rw [List.getElem?_append_left e] at hk; exact .inl ⟨e, hk⟩
    · rw [List.getElem?_append_right (by omega)] at hk
      have hk0 : k - was.length = 0 := by
        have := (List.getElem?_eq_some_iff.1 hk).1
        simp at this; omega
      rw [hk0] at hk
      exact .inr ⟨by omega, by simpa using hk.symm⟩
  refine ⟨by simp, by rw [nextL_sites, List.getLast?_concat], by rw [nextL_sites]; exact hn, ?_, ?_⟩
  · intro r hr
    obtain ⟨s, hs, rfl⟩ := List.mem_map.1 hr
    show 1 ≤ sinceN _ T s ∧ sinceN _ T s ≤ _
    rw [List.length_append, List.length_singleton]
    unfold sinceN
    split
    · rename_i r he
      have hm := List.mem_of_find?_eq_some he
      have := h.lo r hm
      split <;> omega
    · omega
  · intro r hr g hg
    obtain ⟨s, hs, rfl⟩ := List.mem_map.1 hr
    rw [List.length_append, List.length_singleton] at hg
    show sinceN _ T s ≤ _ ↔ ∀ k C', g ≤ k → (was ++ [C])[k]? = some C' → findS C' s.host = some s
    unfold sinceN
    have hC := findS_some hn hs
    split
    · rename_i r he
      have hm := List.mem_of_find?_eq_some he
      have hhost : r.1.host = s.host := by simpa using List.find?_some he
      split
      · rename_i hsame
        have hrs : r.1 = s := sameR_eq hsame hhost
        have h0 := h.since r hm
        have h1 := h.lo r hm
        rw [hrs] at h0
        constructor
        · intro hle k C' hgk hk
          rcases hat k C' hk with ⟨e1, e2⟩ | ⟨e1, rfl⟩
          · exact (h0 g (by omega)).1 hle k C' hgk e2
          · exact hC
        · intro hall
          by_cases e : g < was.length
          · exact (h0 g e).2 fun k C' hgk hk => hall k C' hgk (by rw [List.getElem?_append_left (List.getElem?_eq_some_iff.1 hk).1]; exact hk)
          · omega
      · rename_i hne
        constructor
        · intro hle k C' hgk hk
          rcases hat k C' hk with ⟨e1, e2⟩ | ⟨e1, rfl⟩
          · omega
          · exact hC
        · intro hall
          by_cases e : g < was.length
          · exfalso
            have := hall (was.length - 1) _ (by omega) (by rw [List.getElem?_append_left (by omega)]; exact hlast)
            rw [findT_map, he] at this
            simp only [Option.map_some, Option.some.injEq] at this
            rw [this] at hne
            exact hne (sameR_refl s)
          · omega
    · rename_i he
      constructor
      · intro hle k C' hgk hk
        rcases hat k C' hk with ⟨e1, e2⟩ | ⟨e1, rfl⟩
        · omega
        · exact hC
      · intro hall
        by_cases e : g < was.length
        · exfalso
          have := hall (was.length - 1) _ (by omega) (by rw [List.getElem?_append_left (by omega)]; exact hlast)
          rw [findT_map, he] at this
          cases this
        · omega
end Go.Pantry
namespace Go.Pantry
open Go.RowKit

def headsB (hs : List (List UInt8)) : Bool := decide (hs.length ≤ 4) && (List.range hs.length).all fun j => mayM (hs.take j) (hs.getD j [])
def rightZ (s : SiteZ) : Bool := ownH s.host && (decide (1 ≤ s.origin) && decide (s.origin ≤ 9)) && (decide (0 ≤ s.min) && decide (s.min ≤ s.max) && decide (s.max ≤ 2147483648)) && headsB s.heads
def okAt (L : List SiteZ) (k : Nat) : Bool := match L[k]? with
  | none => true
  | some s => rightZ s && !((L.take k).any fun x => x.host == s.host)
def rightC (L : List SiteZ) : Bool := decide (L.length ≤ 8) && (List.range L.length).all (okAt L)
def rightT (g : Int) (T : List (SiteZ × Int)) : Bool := (decide (0 ≤ g) && decide (g ≤ 253402300799)) && (T.all (fun r => decide (1 ≤ r.2) && decide (r.2 ≤ g)) && rightC (T.map (·.1)))
theorem headsB_all {hs : List (List UInt8)} (h4 : hs.length ≤ 4) (h : ∀ j x, hs[j]? = some x → mayM (hs.take j) x = true) : headsB hs = true := by
  unfold headsB
  rw [decide_eq_true h4, Bool.true_and, List.all_eq_true]
  intro j hj
  have hjl := List.mem_range.1 hj
  have := h j _ (List.getElem?_eq_getElem hjl)
  rw [List.getD, List.getElem?_eq_getElem hjl]
  exact this
theorem headsB_not {hs : List (List UInt8)} {j : Nat} {x : List UInt8} (hj : hs[j]? = some x) (h : mayM (hs.take j) x = false) : headsB hs = false := by
  unfold headsB
  rw [Bool.and_eq_false_iff]
  right
  rw [List.all_eq_false]
  refine ⟨j, List.mem_range.2 (List.getElem?_eq_some_iff.1 hj).1, ?_⟩
  rw [List.getD, hj, Option.getD_some, h]
  decide
theorem headsB_long {hs : List (List UInt8)} (h4 : 4 < hs.length) : headsB hs = false := by
  unfold headsB
  rw [decide_eq_false (by omega), Bool.false_and]
theorem headsB_iff {hs : List (List UInt8)} : headsB hs = true ↔ hs.length ≤ 4 ∧ ∀ j x, hs[j]? = some x → mayM (hs.take j) x = true := by
  constructor
  · intro h
    by_cases h4 : hs.length ≤ 4
    · refine ⟨h4, fun j x hj => ?_⟩
      cases e : mayM (hs.take j) x with
      | true => rfl
      | false => rw [headsB_not hj e] at h; cases h
    · rw [headsB_long (by omega)] at h; cases h
  · rintro ⟨h1, h2⟩
    exact headsB_all h1 h2
theorem rightC_all {L : List SiteZ} (h8 : L.length ≤ 8) (h : ∀ k s, L[k]? = some s → rightZ s = true ∧ ((L.take k).any fun x => x.host == s.host) = false) : rightC L = true := by
  unfold rightC
  rw [decide_eq_true h8, Bool.true_and, List.all_eq_true]
  intro k hk
  have hkl := List.mem_range.1 hk
  obtain ⟨h1, h2⟩ := h k _ (List.getElem?_eq_getElem hkl)
  unfold okAt
  rw [List.getElem?_eq_getElem hkl]
  simp only [h1, h2]
  rfl
theorem rightC_not {L : List SiteZ} {k : Nat} {s : SiteZ} (hk : L[k]? = some s) (h : rightZ s = false ∨ ((L.take k).any fun x => x.host == s.host) = true) : rightC L = false := by
  unfold rightC
  rw [Bool.and_eq_false_iff]
  right
  rw [List.all_eq_false]
  refine ⟨k, List.mem_range.2 (List.getElem?_eq_some_iff.1 hk).1, ?_⟩
  unfold okAt
  rw [hk]
  simp only
  rcases h with h | h <;> rw [h] <;> simp
theorem rightC_long {L : List SiteZ} (h : 8 < L.length) : rightC L = false := by
  unfold rightC
  rw [decide_eq_false (by omega), Bool.false_and]
theorem rightC_iff {L : List SiteZ} : rightC L = true ↔ L.length ≤ 8 ∧ (∀ s ∈ L, rightZ s = true) ∧ (L.map (·.host)).Nodup := by
  constructor
  · intro h
    by_cases h8 : L.length ≤ 8
    · have each : ∀ k s, L[k]? = some s → rightZ s = true ∧ ((L.take k).any fun x => x.host == s.host) = false := by
        intro k s hk
        cases e1 : rightZ s with
        | false => rw [rightC_not hk (.inl e1)] at h; cases h
        | true =>
          cases e2 : (L.take k).any fun x => x.host == s.host with
          | true => rw [rightC_not hk (.inr e2)] at h; cases h
          | false => exact ⟨rfl, rfl⟩
      refine ⟨h8, fun s hs => ?_, ?_⟩
      · obtain ⟨k, hk⟩ := List.getElem?_of_mem hs
        exact (each k s hk).1
      · rw [List.nodup_iff_pairwise_ne, List.pairwise_map, List.pairwise_iff_getElem]
        intro i j hi hj hij e
        have h2 := (each j _ (List.getElem?_eq_getElem hj)).2
        rw [List.any_eq_false] at h2
        have h3 := h2 L[i] (List.mem_of_getElem? (i := i) (by rw [List.getElem?_take, if_pos hij]; exact List.getElem?_eq_getElem hi))
        simp [e] at h3
    · rw [rightC_long (by omega)] at h; cases h
  · rintro ⟨h1, h2, h3⟩
    refine rightC_all h1 fun k s hk => ⟨h2 s (List.mem_of_getElem? hk), ?_⟩
    rw [List.any_eq_false]
    intro x hx e
    obtain ⟨i, hi⟩ := List.getElem?_of_mem hx
    rw [List.getElem?_take] at hi
    split at hi
    · rename_i hik
      rw [List.nodup_iff_pairwise_ne, List.pairwise_map, List.pairwise_iff_getElem] at h3
      obtain ⟨hil, rfl⟩ := List.getElem?_eq_some_iff.1 hi
      obtain ⟨hkl, rfl⟩ := List.getElem?_eq_some_iff.1 hk
      exact h3 i k hil hkl hik (by simpa using e)
    · cases hi
theorem rightC_nil : rightC [] = true := rightC_iff.2 ⟨by simp, fun s h => absurd h List.not_mem_nil, by simp⟩
theorem rightT_iff {g : Int} {T : List (SiteZ × Int)} : rightT g T = true ↔ (0 ≤ g ∧ g ≤ 253402300799) ∧ (∀ r ∈ T, 1 ≤ r.2 ∧ r.2 ≤ g) ∧ rightC (T.map (·.1)) = true := by
  unfold rightT
  simp only [Bool.and_eq_true, decide_eq_true_eq, List.all_eq_true]
theorem sinceN_le {g : Int} {T : List (SiteZ × Int)} (h : ∀ r ∈ T, 1 ≤ r.2 ∧ r.2 ≤ g) (hg : 0 ≤ g) (s : SiteZ) : 1 ≤ sinceN (g + 1) T s ∧ sinceN (g + 1) T s ≤ g + 1 := by
  unfold sinceN
  split
  · rename_i r he
    have := h r (List.mem_of_find?_eq_some he)
    split <;> omega
  · omega
theorem nextL_right {g : Int} {T : List (SiteZ × Int)} {C : List SiteZ} (h : rightT g T = true) (hC : rightC C = true) (hg : g < 253402300799) : rightT (g + 1) (nextL g T C) = true := by
  obtain ⟨h1, h2, h3⟩ := rightT_iff.1 h
  refine rightT_iff.2 ⟨by omega, fun r hr => ?_, by rw [nextL_sites]; exact hC⟩
  obtain ⟨s, hs, rfl⟩ := List.mem_map.1 hr
  exact sinceN_le h2 h1.1 s
theorem nextL_find (g : Int) (T : List (SiteZ × Int)) (C : List SiteZ) (h : List UInt8) : (nextL g T C).find? (fun r => r.1.host == h) = (findS C h).map fun s => (s, sinceN (g + 1) T s) := by
  unfold nextL findS
  rw [List.find?_map]
  rfl
/-- behind two changes, there and back -/
theorem back_new {g : Int} {T : List (SiteZ × Int)} {C : List SiteZ} {h : List UInt8} (hk : kindD (T.map (·.1)) C h = 3) : (nextL (g + 1) (nextL g T C) (T.map (·.1))).find? (fun r => r.1.host == h) = none := by
  rw [nextL_find, Option.map_eq_none_iff]
  unfold kindD at hk
  split at hk
  · cases hk
  · rename_i s hs
    unfold kindP at hk
    rw [(findS_host hs).1] at hk
    split at hk
    · assumption
    · split at hk <;> cases hk
theorem back_there {g : Int} {T : List (SiteZ × Int)} {C : List SiteZ} {h : List UInt8} (hm : h ∈ hostsP (T.map (·.1)) C) (hk : kindD (T.map (·.1)) C h ≠ 3) :
    ∃ r r', T.find? (fun r => r.1.host == h) = some r ∧ (nextL (g + 1) (nextL g T C) (T.map (·.1))).find? (fun r => r.1.host == h) = some r' ∧
      (kindD (T.map (·.1)) C h = 0 → r'.2 = r.2) ∧ (kindD (T.map (·.1)) C h = 1 ∨ kindD (T.map (·.1)) C h = 2 → r'.2 = g + 2) := by
  rw [nextL_find, findT_map]
  rw [hostsP_mem] at hm
  cases e1 : T.find? (fun r => r.1.host == h) with
  | none =>
    exfalso
    have e2 : findS (T.map (·.1)) h = none := by rw [findT_map, e1]; rfl
    have e3 : ¬ findS C h = none := fun e => by
      rw [findS_none] at e e2
      rcases hm with h1 | h1
      · exact e h1
      · exact e2 h1
    obtain ⟨s, hs⟩ := Option.ne_none_iff_exists'.1 e3
    apply hk
    unfold kindD
    rw [hs]
    simp only [kindP, (findS_host hs).1, e2]
  | some r =>
    have hrh : r.1.host = h := by simpa using List.find?_some e1
    refine ⟨r, (r.1, sinceN (g + 1 + 1) (nextL g T C) r.1), rfl, rfl, ?_, ?_⟩
    · intro h0
      show sinceN _ _ _ = _
      unfold sinceN
      rw [nextL_find, hrh]
      unfold kindD at h0
      cases e2 : findS C h with
      | none => rw [e2] at h0; cases h0
      | some s =>
        rw [e2] at h0
        have hsh := (findS_host e2).1
        simp only [kindP, hsh, findT_map, e1, Option.map_some] at h0
        have hs1 : sameR r.1 s = true := by
          cases e : sameR r.1 s with
          | true => rfl
          | false => rw [e] at h0; cases h0
        simp only [Option.map_some, sameR_symm s r.1, hs1, if_true]
        unfold sinceN
        rw [hsh, e1]
        simp only [hs1, if_true]
    · intro h0
      show sinceN _ _ _ = _
      unfold sinceN
      rw [nextL_find, hrh]
      unfold kindD at h0
      cases e2 : findS C h with
      | none => simp only [Option.map_none]; omega
      | some s =>
        rw [e2] at h0
        have hsh := (findS_host e2).1
        simp only [kindP, hsh, findT_map, e1, Option.map_some] at h0
        have hs1 : sameR r.1 s = false := by
          cases e : sameR r.1 s with
          | false => rfl
          | true => rw [e] at h0; rcases h0 with h0 | h0 <;> cases h0
        simp only [Option.map_some, sameR_symm s r.1, hs1]
        rw [if_neg (by decide)]; omega
end Go.Pantry
namespace Go.Pantry
open Go.RowKit

/-- a word without what ends one -/
def PW (w : List UInt8) : Prop := w ≠ [] ∧ ∀ c ∈ w, isGap c = false ∧ isMark c = false ∧ c ≠ 47
theorem rem_not47 {c : UInt8} (r : List UInt8) (h : c ≠ 47) : remB (c :: r) = false := by
  unfold remB
  rw [List.isPrefixOf]
  have : ((47 : UInt8) == c) = false := by simpa using Ne.symm h
  rw [this]; rfl
theorem run_pw : ∀ w : List UInt8, (∀ c ∈ w, isGap c = false ∧ isMark c = false ∧ c ≠ 47) → runL w = w
  | [], _ => rfl
  | c :: r, h => by
    obtain ⟨h1, h2, h3⟩ := h c (List.mem_cons_self ..)
    rw [runL_cons, h1, h2, rem_not47 r h3, run_pw r (fun d hd => h d (List.mem_cons_of_mem _ hd))]
    rfl
theorem PW.word {w : List UInt8} (h : PW w) : wordL w = w := by
  obtain ⟨c, r, rfl⟩ := List.exists_cons_of_ne_nil h.1
  obtain ⟨h1, h2, h3⟩ := h.2 c (List.mem_cons_self ..)
  unfold wordL
  simp only
  rw [h2, run_pw _ h.2]
  rfl
theorem PW.norm {w : List UInt8} (h : PW w) (r : List UInt8) : Norm (w ++ r) := by
  obtain ⟨c, t, rfl⟩ := List.exists_cons_of_ne_nil h.1
  obtain ⟨h1, h2, h3⟩ := h.2 c (List.mem_cons_self ..)
  unfold Norm
  rw [List.cons_append, skipL, h1, rem_not47 _ h3]
  rfl
theorem mark_not47 {d : UInt8} (h : isMark d = true) : d ≠ 47 := by rintro rfl; revert h; decide
theorem mark_nogap {d : UInt8} (h : isMark d = true) : isGap d = false := by
  unfold isMark at h
  simp only [Bool.or_eq_true, beq_iff_eq] at h
  rcases h with (rfl | rfl) | rfl <;> decide
theorem gap_ne47 {g : UInt8} (h : isGap g = true) : g ≠ 47 := by rintro rfl; revert h; decide
theorem ends_not47 {d : UInt8} (h : isGap d = true ∨ isMark d = true) : d ≠ 47 := h.elim (fun h => gap_ne47 h) mark_not47
theorem text_word {w : List UInt8} (h : PW w) {d : UInt8} (hd : isGap d = true ∨ isMark d = true) (r : List UInt8) : textW (w ++ d :: r) = w :: textW (d :: r) := by
  have hw : wordL (w ++ d :: r) = w := by rw [word_app hd (ends_not47 hd) h.1, h.word]
  unfold textW
  rw [show skipL false (w ++ d :: r) = w ++ d :: r from h.norm _, wordsL_cons (h.norm _) (by simp [h.1]), hw]
  congr 1
  unfold stepL
  rw [hw, List.drop_left]
theorem text_gap {g : UInt8} (h : isGap g = true) (r : List UInt8) : textW (g :: r) = textW r := by unfold textW; rw [skip_gap h]
theorem text_mark {d : UInt8} (h : isMark d = true) (r : List UInt8) : textW (d :: r) = [d] :: textW r := by
  have hn : Norm (d :: r) := by
    unfold Norm
    rw [skipL, mark_nogap h, rem_not47 r (mark_not47 h)]
    rfl
  have hw : wordL (d :: r) = [d] := by unfold wordL; simp only; rw [if_pos h]
  unfold textW
  rw [show skipL false (d :: r) = d :: r from hn, wordsL_cons hn (by simp), hw]
  congr 1
  unfold stepL
  rw [hw]
  rfl
theorem text_nil : textW [] = [] := rfl

/-- a number's digits -/
def decZ (n : Int) : List UInt8 := digF 11 n.toNat
def onW (b : Bool) : List UInt8 := if b then wOn else wOff
/-- headers of a key, and what stands behind -/
def headsT : List (List UInt8) → List UInt8 → List UInt8
  | [], r => r
  | h :: hs, r => 32 :: (wHeader ++ 32 :: (h ++ headsT hs r))
def queryT (b : Bool) (r : List UInt8) : List UInt8 := if b then 32 :: (wQuery ++ r) else r
/-- a site's plain text, and what stands behind -/
def plainR (s : SiteZ) (r : List UInt8) : List UInt8 :=
  wSite ++ 32 :: (s.host ++ 32 :: 123 :: 10 :: 32 :: 32 :: (wOrigin ++ 32 :: (decZ s.origin ++ 59 :: 10 :: 32 :: 32 :: (wTtl ++ 32 :: (decZ s.min ++ 32 :: (decZ s.max ++ 59 :: 10 :: 32 :: 32 :: (wKey ++ 32 :: (wPath ++ queryT s.query (headsT s.heads (59 :: 10 :: 32 :: 32 :: (wKeep ++ 32 :: (onW s.keep ++ 59 :: 10 :: 125 :: 10 :: r))))))))))))
def plainS (s : SiteZ) : List UInt8 := plainR s []
def plainC (C : List SiteZ) : List UInt8 := C.flatMap plainS
theorem headsT_app (hs : List (List UInt8)) (r t : List UInt8) : headsT hs r ++ t = headsT hs (r ++ t) := by
  induction hs with
  | nil => rfl
  | cons h hs ih => simp only [headsT, List.cons_append, List.append_assoc, ih]
theorem queryT_app (b : Bool) (r t : List UInt8) : queryT b r ++ t = queryT b (r ++ t) := by cases b <;> simp [queryT]
theorem plainR_app (s : SiteZ) (r t : List UInt8) : plainR s r ++ t = plainR s (r ++ t) := by
  simp only [plainR, List.cons_append, List.append_assoc, headsT_app, queryT_app]
theorem plainS_app (s : SiteZ) (r : List UInt8) : plainS s ++ r = plainR s r := by unfold plainS; rw [plainR_app]; rfl
/-- a site's words behind its host -/
def siteWs (s : SiteZ) : List (List UInt8) :=
  [123] :: wOrigin :: decZ s.origin :: [59] :: wTtl :: decZ s.min :: decZ s.max :: [59] :: wKey :: wPath :: ((if s.query then [wQuery] else []) ++ (s.heads.flatMap (fun h => [wHeader, h]) ++ [[59], wKeep, onW s.keep, [59], [125]]))
theorem pw_const {w : List UInt8} (h : (!w.isEmpty && w.all fun c => !isGap c && !isMark c && c != 47) = true) : PW w := by
  rw [Bool.and_eq_true] at h
  refine ⟨by rintro rfl; simp at h, fun c hc => ?_⟩
  have := List.all_eq_true.1 h.2 c hc
  simpa [and_assoc] using this
theorem pw_all {w : List UInt8} {p : UInt8 → Bool} (hp : ∀ c, p c = true → isGap c = false ∧ isMark c = false ∧ c ≠ 47) (h0 : w ≠ []) (h : w.all p = true) : PW w := ⟨h0, fun c hc => hp c (List.all_eq_true.1 h c hc)⟩
theorem byte_imp (p q : UInt8 → Bool) (h : (List.range 256).all (fun n => !p n.toUInt8 || q n.toUInt8) = true) (c : UInt8) (hc : p c = true) : q c = true := by
  have h1 := List.all_eq_true.1 h c.toNat (List.mem_range.2 c.toNat_lt)
  have e : c.toNat.toUInt8 = c := by simp
  rw [e, hc] at h1
  simpa using h1
def okB (c : UInt8) : Bool := !isGap c && !isMark c && c != 47
theorem okB_of {c : UInt8} (h : okB c = true) : isGap c = false ∧ isMark c = false ∧ c ≠ 47 := by
  unfold okB at h
  simpa [and_assoc] using h
theorem pw_dec (n : Int) : PW (decZ n) := pw_all (fun c hc => okB_of (byte_imp isDig okB (by decide +kernel) c hc)) (digF_ne 10 _) (digF_all 11 _)
theorem pw_tok {h : List UInt8} (ht : tokenL h = true) : PW h := by
  unfold tokenL at ht
  rw [Bool.and_eq_true] at ht
  refine pw_all (fun c hc => okB_of (byte_imp isTok okB (by decide +kernel) c hc)) ?_ ht.1
  rintro rfl
  simp at ht
def isHostB (c : UInt8) : Bool := isHC c || isDig c || c == 58
theorem pw_host {h : List UInt8} (ho : ownH h = true) : PW h := by
  refine ⟨ownH_ne ho, fun c hc => ?_⟩
  refine okB_of (byte_imp isHostB okB (by decide +kernel) c ?_)
  have hl : hostL h = some h := by unfold ownH at ho; simpa using ho
  unfold hostL at hl
  split at hl
  · cases hl
  · rename_i h1
    have hall : (bef 58 h).all isHC = true := by
      cases e : (bef 58 h).all isHC with
      | true => rfl
      | false => exact absurd (.inr (.inr e)) h1
    have hb : ∀ d ∈ bef 58 h, isHostB d = true := fun d hd => by
      have := List.all_eq_true.1 hall d hd
      unfold isHostB; rw [this]; rfl
    rcases bef_cases 58 h with ⟨_, e1, _, _⟩ | ⟨a, b, _, e1, e2, e3, _⟩
    · rw [e1] at hb; exact hb c hc
    · rw [e2] at hb
      rw [e3] at hl
      rw [e1] at hc
      rcases List.mem_append.1 hc with hc | hc
      · exact hb c hc
      · rcases List.mem_cons.1 hc with rfl | hc
        · decide
        · split at hl
          · rename_i hb0
            rw [hb0] at hc
            cases hc
          · split at hl
            · cases hl
            · rename_i h2
              have hd : b.all isDig = true := by
                cases e : b.all isDig with
                | true => rfl
                | false => exact absurd (.inr e) h2
              have := List.all_eq_true.1 hd c hc
              unfold isHostB; rw [this]; simp
theorem text_heads (hs : List (List UInt8)) (hp : ∀ h ∈ hs, PW h) (r : List UInt8) : textW (headsT hs (59 :: r)) = hs.flatMap (fun h => [wHeader, h]) ++ textW (59 :: r) := by
  induction hs with
  | nil => rfl
  | cons h hs ih =>
    have hh : PW wHeader := pw_const (by decide)
    obtain ⟨d, t, hd, ht⟩ : ∃ d t, (isGap d = true ∨ isMark d = true) ∧ headsT hs (59 :: r) = d :: t := by
      cases hs with
      | nil => exact ⟨59, r, .inr (by decide), rfl⟩
      | cons k hs => exact ⟨32, _, .inl (by decide), rfl⟩
    rw [headsT, text_gap (by decide), text_word hh (.inl (by decide)), text_gap (by decide), ht, text_word (hp h (List.mem_cons_self ..)) hd, ← ht, ih (fun k hk => hp k (List.mem_cons_of_mem _ hk)), List.flatMap_cons]
    rfl
theorem text_plain (s : SiteZ) (ho : ownH s.host = true) (hp : ∀ h ∈ s.heads, PW h) (r : List UInt8) : textW (plainR s r) = wSite :: s.host :: (siteWs s ++ textW r) := by
  have c1 : PW wSite := pw_const (by decide)
  have c2 : PW wOrigin := pw_const (by decide)
  have c3 : PW wTtl := pw_const (by decide)
  have c4 : PW wKey := pw_const (by decide)
  have c5 : PW wPath := pw_const (by decide)
  have c6 : PW wKeep := pw_const (by decide)
  have c7 : PW wQuery := pw_const (by decide)
  have c8 : PW (onW s.keep) := by cases s.keep <;> exact pw_const (by decide)
  have hg : isGap 32 = true := by decide
  have hg1 : isGap 10 = true := by decide
  have hm1 : isMark 59 = true := by decide
  have hm2 : isMark 123 = true := by decide
  have hm3 : isMark 125 = true := by decide
  have tail : ∀ u : List UInt8, textW (59 :: 10 :: 32 :: 32 :: (wKeep ++ 32 :: (onW s.keep ++ 59 :: 10 :: 125 :: 10 :: u))) = [59] :: wKeep :: onW s.keep :: [59] :: [125] :: textW u := fun u => by
    rw [text_mark hm1, text_gap hg1, text_gap hg, text_gap hg, text_word c6 (.inl hg), text_gap hg, text_word c8 (.inr hm1), text_mark hm1, text_gap hg1, text_mark hm3, text_gap hg1]
  have mid : textW (wPath ++ queryT s.query (headsT s.heads (59 :: 10 :: 32 :: 32 :: (wKeep ++ 32 :: (onW s.keep ++ 59 :: 10 :: 125 :: 10 :: r))))) =
      wPath :: ((if s.query then [wQuery] else []) ++ (s.heads.flatMap (fun h => [wHeader, h]) ++ ([59] :: wKeep :: onW s.keep :: [59] :: [125] :: textW r))) := by
    obtain ⟨d, t, hd, ht⟩ : ∃ d t, (isGap d = true ∨ isMark d = true) ∧ headsT s.heads (59 :: 10 :: 32 :: 32 :: (wKeep ++ 32 :: (onW s.keep ++ 59 :: 10 :: 125 :: 10 :: r))) = d :: t := by
      cases s.heads with
      | nil => exact ⟨59, _, .inr (by decide), rfl⟩
      | cons k hs => exact ⟨32, _, .inl (by decide), rfl⟩
    cases s.query with
    | false =>
      simp only [queryT, Bool.false_eq_true, if_false]
      rw [ht, text_word c5 hd, ← ht, text_heads _ hp, tail]
      rfl
    | true =>
      simp only [queryT, if_true]
      rw [text_word c5 (.inl hg), text_gap hg, ht, text_word c7 hd, ← ht, text_heads _ hp, tail]
      rfl
  unfold plainR
  rw [text_word c1 (.inl hg), text_gap hg, text_word (pw_host ho) (.inl hg), text_gap hg, text_mark hm2, text_gap hg1, text_gap hg, text_gap hg, text_word c2 (.inl hg), text_gap hg, text_word (pw_dec _) (.inr hm1), text_mark hm1, text_gap hg1, text_gap hg, text_gap hg,
    text_word c3 (.inl hg), text_gap hg, text_word (pw_dec _) (.inl hg), text_gap hg, text_word (pw_dec _) (.inr hm1), text_mark hm1, text_gap hg1, text_gap hg, text_gap hg, text_word c4 (.inl hg), text_gap hg, mid]
  simp only [siteWs, List.cons_append, List.append_assoc, List.nil_append]
end Go.Pantry
namespace Go.Pantry
open Go.RowKit

def SiteZ.m (s : SiteZ) : SiteM := ⟨s.host, s.origin.toNat, s.min.toNat, s.max.toNat, s.query, s.keep, s.heads⟩
theorem rightZ_iff {s : SiteZ} : rightZ s = true ↔ ownH s.host = true ∧ (1 ≤ s.origin ∧ s.origin ≤ 9) ∧ (0 ≤ s.min ∧ s.min ≤ s.max ∧ s.max ≤ 2147483648) ∧ headsB s.heads = true := by
  unfold rightZ
  simp only [Bool.and_eq_true, decide_eq_true_eq, and_assoc]
theorem right_z {s : SiteZ} (h : rightZ s = true) : s.m.z = s := by
  obtain ⟨_, h1, h2, _⟩ := rightZ_iff.1 h
  obtain ⟨a, b, c, d, e, f, g⟩ := s
  simp only [SiteZ.m, SiteM.z] at *
  rw [Int.toNat_of_nonneg (by omega), Int.toNat_of_nonneg (by omega), Int.toNat_of_nonneg (by omega)]
theorem digF_s (f n : Nat) : digF (f + 1) n = if n < 10 then [(48 + n).toUInt8] else digF f (n / 10) ++ [(48 + n % 10).toUInt8] := by rw [digF]
theorem digF_more : ∀ (f m : Nat), m < 10 ^ (f + 1) → digF (f + 1) m = digF (f + 2) m
  | 0, m, h => by
    have h' : m < 10 := by simpa using h
    rw [digF_s, digF_s 1, if_pos h', if_pos h']
  | f + 1, m, h => by
    have ih := digF_more f (m / 10) (by rw [Nat.div_lt_iff_lt_mul (by decide)]; rw [Nat.pow_succ] at h; exact h)
    rw [digF_s, digF_s (f + 2), ih]
theorem dec_ok {n : Int} (h : n ≤ 2147483648) : okD (decZ n) = true ∧ valD (decZ n) = n.toNat := by
  have h1 : (decZ n).length ≤ 10 := by
    have : ∀ m : Nat, m < 10 ^ 10 → (digF 11 m).length ≤ 10 := by
      intro m hm
      rw [← digF_more 9 m hm]
      exact digF_len 10 m
    exact this _ (by omega)
  have h2 := digF_all 11 n.toNat
  have h3 := digF_ne 10 n.toNat
  have h4 : okD (decZ n) = true := by
    unfold okD decZ at *
    rw [h2, decide_eq_true h1]
    cases e : digF 11 n.toNat with
    | nil => exact absurd e h3
    | cons a b => rfl
  refine ⟨h4, ?_⟩
  unfold valD
  rw [if_pos h4]
  exact digF_val 10 _ (by omega)
/-! the loops, without their measures -/
def keyE (s : SiteM) (p : Ps) : SiteM × Ps := keyF (meas p) s p
theorem keyE_go {s : SiteM} {p : Ps} (h : keyGo p = true) : keyE s p = keyE (keyR s p).1 (keyR s p).2 := by
  have hl := keyR_less (s := s) h
  unfold keyE
  obtain ⟨n, hn⟩ : ∃ n, meas p = n + 1 := ⟨meas p - 1, by omega⟩
  rw [hn, keyF, if_pos h]
  exact keyF_fuel _ _ _ _ (by omega) (Nat.le_refl _)
theorem keyE_stop {s : SiteM} {p : Ps} (h : keyGo p = false) : keyE s p = (s, p) := by
  unfold keyE
  cases meas p with
  | zero => rfl
  | succ n => rw [keyF, h]; rfl
def ruleE (s : SiteM) (seen : List (List UInt8)) (p : Ps) : SiteM × Ps := ruleF (meas p) s seen p
theorem ruleE_go {s : SiteM} {seen : List (List UInt8)} {p : Ps} (h : ruleGo p = true) : ruleE s seen p = ruleE (ruleM s seen p).1 (ruleM s seen p).2.1 (ruleM s seen p).2.2 := by
  have hl := rule_less (s := s) (seen := seen) h
  unfold ruleE
  obtain ⟨n, hn⟩ : ∃ n, meas p = n + 1 := ⟨meas p - 1, by omega⟩
  rw [hn, ruleF, if_pos h]
  exact ruleF_fuel _ _ _ _ _ (by omega) (Nat.le_refl _)
theorem ruleE_stop {s : SiteM} {seen : List (List UInt8)} {p : Ps} (h : ruleGo p = false) : ruleE s seen p = (s, p) := by
  unfold ruleE
  cases meas p with
  | zero => rfl
  | succ n => rw [ruleF, h]; rfl

abbrev ps (q : Nat) (l : List (List UInt8)) : Ps := ⟨0, q, l⟩
theorem chk_yes {b : Bool} (h : b = true) (c : Nat) (p : Ps) : chk b c p = p := by subst h; exact chk_true c p
theorem exp_yes (w : List UInt8) (q : Nat) (l : List (List UInt8)) : expM w (ps q (w :: l)) = ps q l := by
  unfold expM
  rw [chk_yes (by simp [hdW])]
  rfl
theorem once_yes {seen : List (List UInt8)} {w : List UInt8} (h : seen.contains w = false) (q : Nat) (l : List (List UInt8)) : onceM seen (ps q (w :: l)) = ps q l := by
  unfold onceM
  rw [chk_yes (by show (!(seen.contains w)) = true; rw [h]; rfl)]
  rfl
theorem num_yes {lo hi : Nat} {w : List UInt8} (h : okD w = true) (h1 : lo ≤ valD w) (h2 : valD w ≤ hi) (q : Nat) (l : List (List UInt8)) : numM lo hi (ps q (w :: l)) = ps q l := by
  unfold numM
  have e : hdW (ps q (w :: l)) = w := rfl
  rw [e, chk_yes h, chk_yes (by simp [h1, h2])]
  rfl
theorem name_yes {heads : List (List UInt8)} {w : List UInt8} (h4 : heads.length < 4) (h : mayM heads w = true) (q : Nat) (l : List (List UInt8)) : nameM heads (ps q (w :: l)) = ps q l := by
  unfold nameM
  have e : hdW (ps q (w :: l)) = w := rfl
  rw [e, chk_yes h, chk_yes (by simp [h4])]
  rfl
theorem key_heads (q : Nat) (r : List (List UInt8)) : ∀ (rest pre : List (List UInt8)) (s : SiteM), s.heads = pre → headsB (pre ++ rest) = true →
    keyE s (ps q (rest.flatMap (fun h => [wHeader, h]) ++ [59] :: r)) = ({ s with heads := pre ++ rest }, ps q ([59] :: r))
  | [], pre, s, hs, _ => by
    rw [List.flatMap_nil, List.nil_append, keyE_stop (by unfold keyGo hdW; simp), List.append_nil]
    subst hs
    rfl
  | h :: rest, pre, s, hs, hb => by
    obtain ⟨h4, hm⟩ := headsB_iff.1 hb
    rw [List.length_append, List.length_cons] at h4
    have hm1 := hm pre.length h (by rw [List.getElem?_append_right (Nat.le_refl _)]; simp)
    rw [List.take_left] at hm1
    rw [List.flatMap_cons, List.append_assoc]
    have hstep : keyR s (ps q ([wHeader, h] ++ (rest.flatMap (fun h => [wHeader, h]) ++ [59] :: r))) = ({ s with heads := pre ++ [h] }, ps q (rest.flatMap (fun h => [wHeader, h]) ++ [59] :: r)) := by
      unfold keyR
      have e : hdW (ps q ([wHeader, h] ++ (rest.flatMap (fun h => [wHeader, h]) ++ [59] :: r))) = wHeader := rfl
      rw [e, if_neg (by decide), if_pos (by decide)]
      subst hs
      refine Prod.ext rfl ?_
      exact name_yes (by omega) hm1 q _
    rw [keyE_go (by unfold keyGo hdW; simp; decide), hstep]
    have := key_heads q r rest (pre ++ [h]) { s with heads := pre ++ [h] } rfl (by rw [List.append_assoc]; exact hb)
    rw [this, List.append_assoc]
    rfl
theorem key_yes (q : Nat) (r : List (List UInt8)) (b : Bool) (hs : List (List UInt8)) (s : SiteM) (h0 : s.heads = []) (hb : headsB hs = true) :
    keyM s (ps q (wPath :: ((if b then [wQuery] else []) ++ (hs.flatMap (fun h => [wHeader, h]) ++ [59] :: r)))) = ({ s with query := b, heads := hs }, ps q ([59] :: r)) := by
  unfold keyM
  rw [exp_yes]
  change keyE _ _ = _
  cases b with
  | false => exact key_heads q r hs [] { s with query := false } h0 hb
  | true =>
    rw [keyE_go (by unfold keyGo hdW; simp; decide)]
    have hstep : keyR { s with query := false } (ps q ((if true = true then [wQuery] else []) ++ (hs.flatMap (fun h => [wHeader, h]) ++ [59] :: r))) = ({ s with query := true }, ps q (hs.flatMap (fun h => [wHeader, h]) ++ [59] :: r)) := by
      unfold keyR
      have e : hdW (ps q ((if true = true then [wQuery] else []) ++ (hs.flatMap (fun h => [wHeader, h]) ++ [59] :: r))) = wQuery := rfl
      rw [e, if_pos (by decide)]
      rfl
    rw [hstep]
    exact key_heads q r hs [] { s with query := true } h0 hb
theorem hd_cons (q : Nat) (w : List UInt8) (l : List (List UInt8)) : hdW (ps q (w :: l)) = w := rfl
theorem rules_yes (s : SiteZ) (h : rightZ s = true) (q : Nat) (x : List (List UInt8)) :
    ruleE (site0 s.host) [] (ps q ((siteWs s).tail ++ x)) = (s.m, ps q ([125] :: x)) := by
  obtain ⟨_, ⟨o1, o2⟩, ⟨m1, m2, m3⟩, hh⟩ := rightZ_iff.1 h
  obtain ⟨d1, v1⟩ := dec_ok (n := s.origin) (by omega)
  obtain ⟨d2, v2⟩ := dec_ok (n := s.min) (by omega)
  obtain ⟨d3, v3⟩ := dec_ok (n := s.max) (by omega)
  have go : ∀ (w : List UInt8) (l : List (List UInt8)), (w != [125]) = true → ruleGo (ps q (w :: l)) = true := fun w l hw => by
    unfold ruleGo; rw [hd_cons, hw]; rfl
  simp only [siteWs, List.tail_cons, List.cons_append, List.append_assoc, List.nil_append]
  -- origin
  rw [ruleE_go (go _ _ (by decide))]
  have r1 : ∀ l : List (List UInt8), ruleM (site0 s.host) [] (ps q (wOrigin :: decZ s.origin :: [59] :: l)) = ({ site0 s.host with origin := s.origin.toNat }, [wOrigin], ps q l) := fun l => by
    unfold ruleM
    rw [hd_cons, if_pos (by decide), once_yes (by rfl)]
    have : kindM wOrigin (site0 s.host) (ps q (decZ s.origin :: [59] :: l)) = ({ site0 s.host with origin := s.origin.toNat }, ps q ([59] :: l)) := by
      unfold kindM originM
      rw [if_pos (by decide), hd_cons, v1, num_yes d1 (by omega) (by omega)]
    rw [this, exp_yes]
  rw [r1]
  -- ttl
  rw [ruleE_go (go _ _ (by decide))]
  have r2 : ∀ l : List (List UInt8), ruleM { site0 s.host with origin := s.origin.toNat } [wOrigin] (ps q (wTtl :: decZ s.min :: decZ s.max :: [59] :: l)) = ({ site0 s.host with origin := s.origin.toNat, min := s.min.toNat, max := s.max.toNat }, [wTtl, wOrigin], ps q l) := fun l => by
    unfold ruleM
    rw [hd_cons, if_pos (by decide), once_yes (by decide)]
    have : kindM wTtl { site0 s.host with origin := s.origin.toNat } (ps q (decZ s.min :: decZ s.max :: [59] :: l)) = ({ site0 s.host with origin := s.origin.toNat, min := s.min.toNat, max := s.max.toNat }, ps q ([59] :: l)) := by
      unfold kindM ttlM
      rw [if_neg (by decide), if_pos (by decide), hd_cons, v2, num_yes d2 (by omega) (by omega), hd_cons, v3, num_yes d3 (by omega) (by omega)]
    rw [this, exp_yes]
  simp only
  rw [r2]
  -- key
  rw [ruleE_go (go _ _ (by decide))]
  have r3 : ∀ l : List (List UInt8), ruleM { site0 s.host with origin := s.origin.toNat, min := s.min.toNat, max := s.max.toNat } [wTtl, wOrigin] (ps q (wKey :: wPath :: ((if s.query then [wQuery] else []) ++ (s.heads.flatMap (fun h => [wHeader, h]) ++ [59] :: l)))) =
      ({ site0 s.host with origin := s.origin.toNat, min := s.min.toNat, max := s.max.toNat, query := s.query, heads := s.heads }, [wKey, wTtl, wOrigin], ps q l) := fun l => by
    unfold ruleM
    rw [hd_cons, if_pos (by decide), once_yes (by decide)]
    have : kindM wKey { site0 s.host with origin := s.origin.toNat, min := s.min.toNat, max := s.max.toNat } (ps q (wPath :: ((if s.query then [wQuery] else []) ++ (s.heads.flatMap (fun h => [wHeader, h]) ++ [59] :: l)))) =
        ({ site0 s.host with origin := s.origin.toNat, min := s.min.toNat, max := s.max.toNat, query := s.query, heads := s.heads }, ps q ([59] :: l)) := by
      unfold kindM
      rw [if_neg (by decide), if_neg (by decide), if_pos (by decide), key_yes q l s.query s.heads _ rfl hh]
    rw [this, exp_yes]
  simp only
  rw [r3]
  -- keep
  rw [ruleE_go (go _ _ (by decide))]
  have r4 : ∀ l : List (List UInt8), ruleM { site0 s.host with origin := s.origin.toNat, min := s.min.toNat, max := s.max.toNat, query := s.query, heads := s.heads } [wKey, wTtl, wOrigin] (ps q (wKeep :: onW s.keep :: [59] :: l)) =
      (s.m, [wKeep, wKey, wTtl, wOrigin], ps q l) := fun l => by
    unfold ruleM
    rw [hd_cons, if_pos (by decide), once_yes (by decide)]
    have hk : (onW s.keep == wOn) = s.keep := by cases s.keep <;> decide
    have hk2 : (onW s.keep == wOn || onW s.keep == wOff) = true := by cases s.keep <;> decide
    have : kindM wKeep { site0 s.host with origin := s.origin.toNat, min := s.min.toNat, max := s.max.toNat, query := s.query, heads := s.heads } (ps q (onW s.keep :: [59] :: l)) = (s.m, ps q ([59] :: l)) := by
      unfold kindM keepM
      rw [if_neg (by decide), if_neg (by decide), if_neg (by decide), hd_cons, chk_yes hk2, hk]
      rfl
    rw [this, exp_yes]
  simp only
  rw [r4]
  exact ruleE_stop rfl
theorem site_yes (s : SiteZ) (h : rightZ s = true) (hosts : List (List UInt8)) (hc : hosts.contains s.host = false) (q : Nat) (x : List (List UInt8)) :
    siteM hosts (ps q (s.host :: (siteWs s ++ x))) = (s.m, ps q x) := by
  have e : headM hosts (ps q (s.host :: (siteWs s ++ x))) = ps q ((siteWs s).tail ++ x) := by
    unfold headM
    rw [hd_cons, chk_yes (rightZ_iff.1 h).1, once_yes hc]
    exact exp_yes _ _ _
  unfold siteM
  rw [e, hd_cons]
  change ((ruleE _ _ _).1, expM [125] (ruleE _ _ _).2) = _
  rw [rules_yes s h, exp_yes]
theorem cfg_yes (q : Nat) : ∀ (k : Nat) (rest c : List SiteZ) (l : List (List UInt8)), l = rest.flatMap (fun s => wSite :: s.host :: siteWs s) → l.length + 1 ≤ k → (c ++ rest).length ≤ 8 → (∀ s ∈ rest, rightZ s = true) → ((c ++ rest).map (·.host)).Nodup →
    cfgF k (c.map SiteZ.m) (c.map (·.host)).reverse (ps q l) = ((c ++ rest).map SiteZ.m, ps q [])
  | k, [], c, l, hl, hk, _, _, _ => by
    subst hl
    cases k with
    | zero => simp at hk
    | succ k =>
      rw [cfgF, if_neg (by simp [cfgGo, hdW]), List.append_nil]
      rfl
  | 0, s :: rest, c, l, hl, hk, _, _, _ => by simp at hk
  | k + 1, s :: rest, c, l, hl, hk, h8, hr, hn => by
    subst hl
    rw [List.flatMap_cons] at hk ⊢
    have hs := hr s (List.mem_cons_self ..)
    rw [List.length_append, List.length_cons] at h8
    have hat : atSite (c.map SiteZ.m).length (ps q (wSite :: s.host :: siteWs s ++ rest.flatMap (fun s => wSite :: s.host :: siteWs s))) = ps q (s.host :: (siteWs s ++ rest.flatMap (fun s => wSite :: s.host :: siteWs s))) := by
      unfold atSite
      rw [chk_yes (by rw [List.length_map]; exact decide_eq_true (by omega)), chk_yes (by simp [hdW])]
      rfl
    have hc : (c.map (·.host)).reverse.contains s.host = false := by
      rw [Bool.eq_false_iff]
      intro e
      rw [List.contains_iff_mem, List.mem_reverse] at e
      rw [List.map_append, List.nodup_append] at hn
      exact hn.2.2 _ e _ (List.mem_map.2 ⟨s, List.mem_cons_self .., rfl⟩) rfl
    rw [cfgF, if_pos (by simp [cfgGo, hdW]; decide), hat, hd_cons, site_yes s hs _ hc]
    have := cfg_yes q k rest (c ++ [s]) _ rfl (by simp only [List.length_append, List.length_cons] at hk; omega) (by simp; omega) (fun t ht => hr t (List.mem_cons_of_mem _ ht)) (by simpa using hn)
    rw [List.append_assoc, List.map_append, List.map_append, List.reverse_append] at this
    simpa using this
theorem mayM_pw {heads : List (List UInt8)} {n : List UInt8} (h : mayM heads n = true) : PW n := by
  unfold mayM nameOk at h
  simp only [Bool.and_eq_true] at h
  exact pw_tok h.1.1.1
theorem heads_pw {hs : List (List UInt8)} (h : headsB hs = true) : ∀ x ∈ hs, PW x := fun x hx => by
  obtain ⟨j, hj⟩ := List.getElem?_of_mem hx
  exact mayM_pw ((headsB_iff.1 h).2 j x hj)
theorem text_plains : ∀ (C : List SiteZ), (∀ s ∈ C, rightZ s = true) → textW (plainC C) = C.flatMap (fun s => wSite :: s.host :: siteWs s)
  | [], _ => rfl
  | s :: C, h => by
    have hs := rightZ_iff.1 (h s (List.mem_cons_self ..))
    unfold plainC
    rw [List.flatMap_cons, plainS_app, text_plain s hs.1 (heads_pw hs.2.2.2), List.flatMap_cons]
    have := text_plains C (fun t ht => h t (List.mem_cons_of_mem _ ht))
    unfold plainC at this
    rw [this]
    rfl
/-- a right config's plain text is read as it -/
theorem read_plains {C : List SiteZ} (h : rightC C = true) (hl : (plainC C).length ≤ 4096) : readM (plainC C) = (C.map SiteZ.m, 0, 0) := by
  obtain ⟨h8, hr, hn⟩ := rightC_iff.1 h
  have e : cfgM (plainC C) = (C.map SiteZ.m, ps 0 []) := by
    unfold cfgM ps0
    exact cfg_yes 0 _ C [] (textW (plainC C)) (text_plains C hr) (by unfold meas; simp) h8 hr hn
  rw [readM_short hl, e]
  rfl
theorem right_zs {C : List SiteZ} (h : rightC C = true) : (C.map SiteZ.m).map SiteM.z = C := by
  obtain ⟨_, hr, _⟩ := rightC_iff.1 h
  rw [List.map_map]
  exact (List.map_congr_left fun s hs => right_z (hr s hs)).trans (List.map_id _)
end Go.Pantry
namespace Go.Pantry
open Go.RowKit

/-- a site's rules are right -/
def OkS (s : SiteM) : Prop := (1 ≤ s.origin ∧ s.origin ≤ 9) ∧ (s.min ≤ s.max ∧ s.max ≤ 2147483648) ∧ headsB s.heads = true
theorem headsB_snoc {hs : List (List UInt8)} {n : List UInt8} (h : headsB hs = true) (hm : mayM hs n = true) (h4 : hs.length < 4) : headsB (hs ++ [n]) = true := by
  obtain ⟨h1, h2⟩ := headsB_iff.1 h
  refine headsB_iff.2 ⟨by simp; omega, fun j x hj => ?_⟩
  by_cases e : j < hs.length
  · rw [List.getElem?_append_left e] at hj
    rw [List.take_append_of_le_length (by omega)]
    exact h2 j x hj
  · rw [List.getElem?_append_right (by omega)] at hj
    have hj0 : j = hs.length := by
      have := (List.getElem?_eq_some_iff.1 hj).1
      simp at this; omega
    subst hj0
    rw [Nat.sub_self] at hj
    obtain rfl : n = x := by simpa using hj
    rw [List.take_left]
    exact hm
theorem keyR_heads {s : SiteM} {p : Ps} (hb : headsB s.heads = true) (h : (keyR s p).2.code = 0) : headsB (keyR s p).1.heads = true ∧ (keyR s p).1.origin = s.origin ∧ (keyR s p).1.min = s.min ∧ (keyR s p).1.max = s.max := by
  unfold keyR at h ⊢
  split
  · exact ⟨hb, rfl, rfl, rfl⟩
  · split
    · rename_i h1 h2
      rw [if_neg h1, if_pos h2] at h
      obtain ⟨_, k2, k3, _⟩ := name_app [] h
      exact ⟨headsB_snoc hb k2 k3, rfl, rfl, rfl⟩
    · exact ⟨hb, rfl, rfl, rfl⟩
theorem keyF_heads : ∀ (k : Nat) (s : SiteM) (p : Ps), headsB s.heads = true → (keyF k s p).2.code = 0 → headsB (keyF k s p).1.heads = true ∧ (keyF k s p).1.origin = s.origin ∧ (keyF k s p).1.min = s.min ∧ (keyF k s p).1.max = s.max
  | 0, s, p, hb, _ => ⟨hb, rfl, rfl, rfl⟩
  | k + 1, s, p, hb, h => by
    rw [keyF] at h ⊢
    split
    · rename_i hg
      rw [if_pos hg] at h
      obtain ⟨h1, h2, h3, h4⟩ := keyR_heads (s := s) (p := p) hb ((fol_keyF k _ _).ok h)
      obtain ⟨k1, k2, k3, k4⟩ := keyF_heads k _ _ h1 h
      exact ⟨k1, k2.trans h2, k3.trans h3, k4.trans h4⟩
    · exact ⟨hb, rfl, rfl, rfl⟩
theorem kind_ok {w : List UInt8} {s : SiteM} {p : Ps} (hs : OkS s) (h : (kindM w s p).2.code = 0) : OkS (kindM w s p).1 := by
  obtain ⟨h1, h2, h3⟩ := hs
  unfold kindM at h ⊢
  split
  · rename_i e
    rw [if_pos e] at h
    obtain ⟨_, _, k3, k4, _⟩ := num_app [] h
    exact ⟨⟨k3, k4⟩, h2, h3⟩
  · rename_i e
    rw [if_neg e] at h
    split
    · rename_i e2
      rw [if_pos e2] at h
      obtain ⟨_, _, k3, k4, _⟩ := num_app [] h
      exact ⟨h1, ⟨k3, k4⟩, h3⟩
    · rename_i e2
      rw [if_neg e2] at h
      split
      · rename_i e3
        rw [if_pos e3] at h
        obtain ⟨k1, k2, k3, k4⟩ := keyF_heads _ _ _ (by exact h3) h
        refine ⟨?_, ?_, k1⟩
        · show 1 ≤ (keyF _ _ _).1.origin ∧ (keyF _ _ _).1.origin ≤ 9
          rw [k2]; exact h1
        · show (keyF _ _ _).1.min ≤ (keyF _ _ _).1.max ∧ (keyF _ _ _).1.max ≤ _
          rw [k3, k4]; exact h2
      · exact ⟨h1, h2, h3⟩
theorem rule_ok {s : SiteM} {seen : List (List UInt8)} {p : Ps} (hs : OkS s) (h : (ruleM s seen p).2.2.code = 0) : OkS (ruleM s seen p).1 := by
  unfold ruleM at h ⊢
  split
  · rename_i e
    rw [if_pos e] at h
    exact kind_ok hs ((fol_exp _ _).ok h)
  · exact hs
theorem ruleF_ok : ∀ (k : Nat) (s : SiteM) (seen : List (List UInt8)) (p : Ps), OkS s → (ruleF k s seen p).2.code = 0 → OkS (ruleF k s seen p).1
  | 0, s, seen, p, hs, _ => hs
  | k + 1, s, seen, p, hs, h => by
    rw [ruleF] at h ⊢
    split
    · rename_i e
      rw [if_pos e] at h
      exact ruleF_ok k _ _ _ (rule_ok hs ((fol_ruleF k _ _ _).ok h)) h
    · exact hs
theorem site0_ok (h : List UInt8) : OkS (site0 h) := ⟨⟨Nat.le_refl _, (by decide : 1 ≤ 9)⟩, ⟨(by decide : 0 ≤ 3600), (by decide : 3600 ≤ 2147483648)⟩, (by decide : headsB [] = true)⟩
theorem site_right {hosts : List (List UInt8)} {p : Ps} (h : (siteM hosts p).2.code = 0) : rightZ (siteM hosts p).1.z = true := by
  obtain ⟨_, _, k3, _⟩ := site_app [] h
  have hr : OkS (siteM hosts p).1 := ruleF_ok _ _ _ _ (site0_ok _) ((fol_exp _ _).ok h)
  obtain ⟨h1, h2, h3⟩ := hr
  have hh := site_host' hosts p
  refine rightZ_iff.2 ⟨?_, ?_, ?_, h3⟩
  · show ownH (siteM hosts p).1.host = true
    rw [hh]; exact k3
  · show (1 : Int) ≤ ((siteM hosts p).1.origin : Int) ∧ ((siteM hosts p).1.origin : Int) ≤ 9
    omega
  · show (0 : Int) ≤ ((siteM hosts p).1.min : Int) ∧ ((siteM hosts p).1.min : Int) ≤ ((siteM hosts p).1.max : Int) ∧ ((siteM hosts p).1.max : Int) ≤ 2147483648
    omega
theorem cfg_right : ∀ (k : Nat) (c : List SiteM) (hosts : List (List UInt8)) (p : Ps), hosts = hostsR c → rightC (c.map SiteM.z) = true → (cfgF k c hosts p).2.code = 0 → rightC ((cfgF k c hosts p).1.map SiteM.z) = true
  | 0, c, hosts, p, _, hr, _ => hr
  | k + 1, c, hosts, p, hh, hr, h => by
    rw [cfgF] at h ⊢
    split
    · rename_i hg
      rw [if_pos hg] at h
      have h1 := (fol_cfgF k _ _ _).ok h
      obtain ⟨_, k2, k3, k4⟩ := site_app [] h1
      obtain ⟨a1, a2, a3, a4, a5⟩ := at_app [] k2
      have hhost := site_host' hosts (atSite c.length p)
      refine cfg_right k _ _ _ ?_ ?_ h
      · unfold hostsR
        rw [List.map_append, List.reverse_append, hh]
        simp only [List.map_cons, List.map_nil, List.reverse_cons, List.reverse_nil, List.nil_append, List.singleton_append]
        rw [hh] at hhost
        rw [hhost]; rfl
      · obtain ⟨r1, r2, r3⟩ := rightC_iff.1 hr
        refine rightC_iff.2 ⟨by simp; omega, ?_, ?_⟩
        · intro s hs
          rw [List.map_append] at hs
          rcases List.mem_append.1 hs with hs | hs
          · exact r2 s hs
          · obtain rfl : s = (siteM hosts (atSite c.length p)).1.z := by simpa using hs
            exact site_right h1
        · rw [List.map_append, List.map_append, List.nodup_append]
          refine ⟨r3, by simp, ?_⟩
          intro a ha b hb e
          subst e
          have hb' : a = hdW (atSite c.length p) := by
            have : a = (siteM hosts (atSite c.length p)).1.host := by simpa [SiteM.z] using hb
            rw [this, hhost]
          have : hosts.contains (hdW (atSite c.length p)) = true := by
            rw [List.contains_iff_mem, hh, ← hb']
            unfold hostsR
            rw [List.mem_reverse]
            rw [List.map_map] at ha
            exact ha
          rw [k4] at this
          cases this
    · exact hr
/-- what is read is right -/
theorem read_right {t : List UInt8} (h : (readM t).2.1 = 0) : rightC ((readM t).1.map SiteM.z) = true := by
  by_cases hl : 4096 < t.length
  · rw [readM_long hl] at h; cases h
  · rw [readM_short (by omega)] at h ⊢
    split
    · rename_i hc
      exact cfg_right _ _ _ _ rfl rightC_nil hc
    · exact rightC_nil
theorem z_inj {a b : SiteM} (h : a.z = b.z) : a = b := by
  obtain ⟨a0, a1, a2, a3, a4, a5, a6⟩ := a
  obtain ⟨b0, b1, b2, b3, b4, b5, b6⟩ := b
  simp only [SiteM.z, SiteZ.mk.injEq, Int.ofNat_inj] at h
  obtain ⟨rfl, rfl, rfl, rfl, rfl, rfl, rfl⟩ := h
  rfl
/-- a text that is read, and its plain text -/
theorem read_again {t : List UInt8} (h : (readM t).2.1 = 0) (hl : (plainC ((readM t).1.map SiteM.z)).length ≤ 4096) : readM (plainC ((readM t).1.map SiteM.z)) = ((readM t).1, 0, 0) := by
  rw [read_plains (read_right h) hl]
  have := right_zs (read_right h)
  congr 1
  rw [List.map_map] at this ⊢
  rw [List.map_congr_left (g := id) fun s _ => z_inj ?_, List.map_id]
  show ((s.z).m).z = s.z
  have hr := (rightC_iff.1 (read_right h)).2.1
  exact right_z (hr _ (List.mem_map.2 ⟨s, ‹_›, rfl⟩))
end Go.Pantry

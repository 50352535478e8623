/-
  Several texts in one: PurePlan, PureKey, Ref11K, PureFresh, PureFresh2, PurePass, PurePass2.
-/
import Derived.Test.YtoolboafbkikjaaDoorPureAll3
import Derived.Sort.KeysCollected
import Derived.Sort.Walk0
import Derived.Test.YtoolboafbkikjaaDoorF1302
set_option linter.unusedVariables false
set_option linter.unusedSimpArgs false
/-
  Plans; a right config's plain text, that it is read as it, and that what is read is right. No program is imported.
-/
namespace Go.Pantry
open Go.RowKit

/-- a slice's value has room for what it is long -/
def Room (v : Value) : Prop := ∀ ao n c, v = .slice ao n c → n ≤ c
theorem Room.le {ao : Option Addr} {n c : Nat} (h : Room (.slice ao n c)) : n ≤ c := h _ _ _ rfl
theorem room_of {ao : Option Addr} {n c : Nat} (h : n ≤ c) : Room (.slice ao n c) := fun _ _ _ e => by cases e; exact h
theorem ltL_iff (a b : List UInt8) : ltL a b = decide (a < b) := Go.Proofs.bytesLess_eq a b
theorem lt_tri {a b : List UInt8} (h1 : ¬ a < b) (h2 : ¬ a = b) : b < a := by
  rcases List.le_total a b with h | h
  · exact absurd (List.le_antisymm h (List.not_lt.1 h1)) h2
  · rcases List.le_iff_lt_or_eq.1 h with h | h
    · exact h
    · exact absurd h.symm h2

/-- two sites' rules are the same -/
def sameR (a b : SiteZ) : Bool := a.origin == b.origin && a.min == b.min && a.max == b.max && a.query == b.query && a.keep == b.keep && a.heads == b.heads
theorem sameR_refl (a : SiteZ) : sameR a a = true := by simp [sameR]
theorem sameR_symm (a b : SiteZ) : sameR a b = sameR b a := by
  unfold sameR
  rw [Bool.beq_comm (a := a.origin), Bool.beq_comm (a := a.min), Bool.beq_comm (a := a.max), Bool.beq_comm (a := a.query), Bool.beq_comm (a := a.keep), Bool.beq_comm (a := a.heads)]
theorem sameR_eq {a b : SiteZ} (h : sameR a b = true) (hh : a.host = b.host) : a = b := by
  obtain ⟨a0, a1, a2, a3, a4, a5, a6⟩ := a
  obtain ⟨b0, b1, b2, b3, b4, b5, b6⟩ := b
  simp [sameR] at h
  obtain ⟨⟨⟨⟨⟨h1, h2⟩, h3⟩, h4⟩, h5⟩, h6⟩ := h
  simp at hh
  subst h1 h2 h3 h4 h5 h6 hh
  rfl
/-- the site of a host -/
def findS (A : List SiteZ) (h : List UInt8) : Option SiteZ := A.find? fun s => s.host == h
theorem findS_host {A : List SiteZ} {h : List UInt8} {s : SiteZ} (e : findS A h = some s) : s.host = h ∧ s ∈ A := by
  unfold findS at e
  have h1 := List.find?_some e
  simp only [beq_iff_eq] at h1
  exact ⟨h1, List.mem_of_find?_eq_some e⟩
theorem findS_none {A : List SiteZ} {h : List UInt8} : findS A h = none ↔ h ∉ A.map (·.host) := by
  unfold findS
  rw [List.find?_eq_none]
  simp only [beq_iff_eq, List.mem_map, not_exists, not_and]
theorem findS_some {A : List SiteZ} (hn : (A.map (·.host)).Nodup) {s : SiteZ} (h : s ∈ A) : findS A s.host = some s := by
  induction A with
  | nil => cases h
  | cons a A ih =>
    unfold findS
    rw [List.find?_cons]
    by_cases e : a.host = s.host
    · simp only [e, beq_self_eq_true]
      rcases List.mem_cons.1 h with rfl | h
      · rfl
      · rw [List.map_cons, List.nodup_cons] at hn
        exact absurd (by rw [e]; exact List.mem_map.2 ⟨s, h, rfl⟩) hn.1
    · have e' : (a.host == s.host) = false := by simpa using e
      rw [e']
      rcases List.mem_cons.1 h with rfl | h
      · exact absurd rfl e
      · rw [List.map_cons, List.nodup_cons] at hn
        exact ih hn.2 h
/-- the action of a site against a config -/
def kindP (A : List SiteZ) (s : SiteZ) : Nat := match findS A s.host with
  | none => 3
  | some o => if sameR o s then 0 else 1
/-- the action of a host that one of two configs has -/
def kindD (A B : List SiteZ) (h : List UInt8) : Nat := match findS B h with
  | none => 2
  | some s => kindP A s
/-- a host among others that rise -/
def riseL : List (List UInt8) → List UInt8 → List (List UInt8)
  | [], h => [h]
  | x :: l, h => if x < h then x :: riseL l h else if x = h then x :: l else h :: x :: l
theorem riseL_mem : ∀ (l : List (List UInt8)) (h x : List UInt8), x ∈ riseL l h ↔ x = h ∨ x ∈ l
  | [], h, x => by simp [riseL]
  | y :: l, h, x => by
    unfold riseL
    split
    · rw [List.mem_cons, riseL_mem l h x, List.mem_cons]
      constructor
      · rintro (h1 | h1 | h1)
        · exact .inr (.inl h1)
        · exact .inl h1
        · exact .inr (.inr h1)
      · rintro (h1 | h1 | h1)
        · exact .inr (.inl h1)
        · exact .inl h1
        · exact .inr (.inr h1)
    · split
      · rename_i h1 h2
        subst h2
        simp
      · simp
theorem riseL_sorted : ∀ (l : List (List UInt8)) (h : List UInt8), l.Pairwise (· < ·) → (riseL l h).Pairwise (· < ·)
  | [], h, _ => by simp [riseL]
  | y :: l, h, hp => by
    rw [List.pairwise_cons] at hp
    unfold riseL
    split
    · rename_i h1
      rw [List.pairwise_cons]
      refine ⟨fun x hx => ?_, riseL_sorted l h hp.2⟩
      rcases (riseL_mem l h x).1 hx with rfl | hx
      · exact h1
      · exact hp.1 x hx
    · split
      · exact List.pairwise_cons.2 hp
      · rename_i h1 h2
        rw [List.pairwise_cons]
        refine ⟨fun x hx => ?_, List.pairwise_cons.2 hp⟩
        have h3 := lt_tri h1 h2
        rcases List.mem_cons.1 hx with rfl | hx
        · exact h3
        · exact List.lt_trans h3 (hp.1 x hx)
/-- the hosts of two configs, rising -/
def hostsP (A B : List SiteZ) : List (List UInt8) := (B.map (·.host)).foldl riseL ((A.map (·.host)).foldl riseL [])
theorem foldPut_mem : ∀ (hs l : List (List UInt8)) (x : List UInt8), x ∈ hs.foldl riseL l ↔ x ∈ hs ∨ x ∈ l
  | [], l, x => by simp
  | h :: hs, l, x => by
    rw [List.foldl_cons, foldPut_mem hs _ x, riseL_mem, List.mem_cons]
    constructor
    · rintro (h1 | h1 | h1)
      · exact .inl (.inr h1)
      · exact .inl (.inl h1)
      · exact .inr h1
    · rintro ((h1 | h1) | h1)
      · exact .inr (.inl h1)
      · exact .inl h1
      · exact .inr (.inr h1)
theorem foldPut_sorted : ∀ (hs l : List (List UInt8)), l.Pairwise (· < ·) → (hs.foldl riseL l).Pairwise (· < ·)
  | [], l, h => h
  | h :: hs, l, hp => by rw [List.foldl_cons]; exact foldPut_sorted hs _ (riseL_sorted l h hp)
theorem hostsP_mem (A B : List SiteZ) (x : List UInt8) : x ∈ hostsP A B ↔ x ∈ B.map (·.host) ∨ x ∈ A.map (·.host) := by
  unfold hostsP
  rw [foldPut_mem, foldPut_mem]
  simp
theorem hostsP_sorted (A B : List SiteZ) : (hostsP A B).Pairwise (· < ·) := foldPut_sorted _ _ (foldPut_sorted _ _ List.Pairwise.nil)
theorem sorted_nodup {l : List (List UInt8)} (h : l.Pairwise (· < ·)) : l.Nodup := h.imp fun {a b} hab e => by subst e; exact List.lt_irrefl _ hab
/-- two rows that rise, of the same texts, are the same -/
theorem sorted_ext {l l' : List (List UInt8)} (h : l.Pairwise (· < ·)) (h' : l'.Pairwise (· < ·)) (hm : ∀ x, x ∈ l ↔ x ∈ l') : l = l' := by
  refine List.Perm.eq_of_pairwise (le := fun a b => a < b) (fun a b _ _ h1 h2 => absurd (List.lt_trans h1 h2) (List.lt_irrefl _)) h h' ?_
  exact (List.perm_ext_iff_of_nodup (sorted_nodup h) (sorted_nodup h')).2 hm
theorem mergeSort_sorted {l : List (List UInt8)} (h : l.Nodup) : (l.mergeSort leB).Pairwise (· < ·) := by
  have tr : ∀ a b c : List UInt8, leB a b = true → leB b c = true → leB a c = true := fun a b c h1 h2 => by simp only [leB, decide_eq_true_eq] at *; exact List.le_trans h1 h2
  have to : ∀ a b : List UInt8, (leB a b || leB b a) = true := fun a b => by simp only [leB, Bool.or_eq_true, decide_eq_true_eq]; exact List.le_total a b
  have h1 := List.pairwise_mergeSort tr to l
  have h2 : (l.mergeSort leB).Nodup := (List.mergeSort_perm l leB).nodup_iff.2 h
  refine (h1.and h2).imp fun {a b} hab => ?_
  obtain ⟨g1, g2⟩ := hab
  simp only [leB, decide_eq_true_eq] at g1
  rcases List.le_iff_lt_or_eq.1 g1 with g | g
  · exact g
  · exact absurd g g2
theorem hostsP_comm (A B : List SiteZ) : hostsP A B = hostsP B A :=
  sorted_ext (hostsP_sorted _ _) (hostsP_sorted _ _) fun x => by rw [hostsP_mem, hostsP_mem]; exact Or.comm
/-- the actions from a config to another one -/
abbrev ActM := Nat × List UInt8
def actsP (A B : List SiteZ) : List ActM := (hostsP A B).map fun h => (kindD A B h, h)
theorem actsP_len (A B : List SiteZ) : (actsP A B).length = (hostsP A B).length := by simp [actsP]
theorem kindP_le (A : List SiteZ) (s : SiteZ) : kindP A s < 4 := by unfold kindP; split <;> (try split) <;> omega
theorem kindD_le (A B : List SiteZ) (h : List UInt8) : kindD A B h < 4 := by
  unfold kindD
  split
  · omega
  · exact kindP_le _ _
/-- the same the other way round -/
def turnK (k : Nat) : Nat := if k = 2 then 3 else if k = 3 then 2 else k
theorem kindD_turn {A B : List SiteZ} {h : List UInt8} (hm : h ∈ hostsP A B) : kindD B A h = turnK (kindD A B h) := by
  rw [hostsP_mem] at hm
  unfold kindD
  cases e1 : findS A h with
  | none =>
    cases e2 : findS B h with
    | none => rw [findS_none] at e1 e2; rcases hm with h1 | h1; exact absurd h1 e2; exact absurd h1 e1
    | some s =>
      have := (findS_host e2).1
      simp only [kindP, this, e1]
      rfl
  | some o =>
    cases e2 : findS B h with
    | none =>
      have := (findS_host e1).1
      simp only [kindP, this, e2]
      rfl
    | some s =>
      have h1 := (findS_host e1).1
      have h2 := (findS_host e2).1
      simp only [kindP, h1, h2, e1, e2, sameR_symm s o]
      split <;> rfl
theorem kindD_self {A : List SiteZ} {h : List UInt8} (hm : h ∈ hostsP A A) : kindD A A h = 0 := by
  rw [hostsP_mem] at hm
  unfold kindD
  cases e1 : findS A h with
  | none => rw [findS_none] at e1; rcases hm with h1 | h1 <;> exact absurd h1 e1
  | some o =>
    have := (findS_host e1).1
    simp only [kindP, this, e1, sameR_refl, if_true]
theorem hostsP_self_len {A : List SiteZ} (hn : (A.map (·.host)).Nodup) : (hostsP A A).length = A.length := by
  have h1 : (hostsP A A).Perm (A.map (·.host)) := (List.perm_ext_iff_of_nodup (sorted_nodup (hostsP_sorted _ _)) hn).2 fun x => by rw [hostsP_mem]; exact or_self_iff
  rw [h1.length_eq, List.length_map]
theorem hostsP_len_le (A B : List SiteZ) : (hostsP A B).length ≤ A.length + B.length := by
  have h0 : ∀ (l : List (List UInt8)) (h : List UInt8), (riseL l h).length ≤ l.length + 1 := by
    intro l h
    induction l with
    | nil => simp [riseL]
    | cons x l ih =>
      unfold riseL
      split
      · simp; omega
      · split <;> simp
  have h1 : ∀ hs l : List (List UInt8), (hs.foldl riseL l).length ≤ l.length + hs.length := by
    intro hs
    induction hs with
    | nil => intro l; simp
    | cons h hs ih => intro l; rw [List.foldl_cons]; have := ih (riseL l h); have := h0 l h; simp; omega
  unfold hostsP
  have e1 := h1 (B.map (·.host)) ((A.map (·.host)).foldl riseL [])
  have e2 := h1 (A.map (·.host)) []
  simp at e1 e2
  omega

/-! tables -/
/-- since when a site is as it is, behind a table -/
def sinceN (g : Int) (T : List (SiteZ × Int)) (s : SiteZ) : Int := match T.find? (fun r => r.1.host == s.host) with
  | some r => if sameR r.1 s then r.2 else g
  | none => g
def nextL (g : Int) (T : List (SiteZ × Int)) (C : List SiteZ) : List (SiteZ × Int) := C.map fun s => (s, sinceN (g + 1) T s)
theorem nextL_sites (g : Int) (T : List (SiteZ × Int)) (C : List SiteZ) : (nextL g T C).map (·.1) = C := by
  unfold nextL
  rw [List.map_map]
  exact List.map_id'' (fun _ => rfl) C
theorem findT_map (T : List (SiteZ × Int)) (h : List UInt8) : findS (T.map (·.1)) h = (T.find? (fun r => r.1.host == h)).map (·.1) := by
  unfold findS
  rw [List.find?_map]
  rfl
theorem sinceN_kind (g : Int) (T : List (SiteZ × Int)) (s : SiteZ) : sinceN g T s = if kindP (T.map (·.1)) s = 0 then ((T.find? (fun r => r.1.host == s.host)).map (·.2)).getD g else g := by
  unfold sinceN kindP
  rw [findT_map]
  cases T.find? (fun r => r.1.host == s.host) with
  | none => rfl
  | some r =>
    simp only [Option.map_some, Option.getD_some]
    by_cases h : sameR r.1 s = true
    · rw [if_pos h, if_pos h, if_pos rfl]
    · rw [if_neg h, if_neg h, if_neg (by decide)]
/-- what a row of configs has come to: n of them, the last one is the table's; a site's number is the least since which all have it -/
structure Hist (was : List (List SiteZ)) (T : List (SiteZ × Int)) : Prop where
  some_ : was ≠ []
  last : was.getLast? = some (T.map (·.1))
  nodup : ((T.map (·.1)).map (·.host)).Nodup
  lo : ∀ r ∈ T, 1 ≤ r.2 ∧ r.2 ≤ ((was.length - 1 : Nat) : Int)
  since : ∀ r ∈ T, ∀ g : Nat, g < was.length → (r.2 ≤ (g : Int) ↔ ∀ k C, g ≤ k → was[k]? = some C → findS C r.1.host = some r.1)
theorem Hist.first : Hist [[]] [] := ⟨by simp, rfl, by simp, fun r h => absurd h List.not_mem_nil, fun r h => absurd h List.not_mem_nil⟩
theorem Hist.next {was : List (List SiteZ)} {T : List (SiteZ × Int)} (h : Hist was T) {C : List SiteZ} (hn : (C.map (·.host)).Nodup) : Hist (was ++ [C]) (nextL ((was.length - 1 : Nat) : Int) T C) := by
  have hw : 0 < was.length := List.length_pos_iff.2 h.some_
  have hlast : was[was.length - 1]? = some (T.map (·.1)) := by rw [← List.getLast?_eq_getElem?]; exact h.last
  have hat : ∀ k C', (was ++ [C])[k]? = some C' → (k < was.length ∧ was[k]? = some C') ∨ (k = was.length ∧ C' = C) := by
    intro k C' hk
    by_cases e : k < was.length
    · rw [List.getElem?_append_left e] at hk; exact .inl ⟨e, hk⟩
    · rw [List.getElem?_append_right (by omega)] at hk
      have hk0 : k - was.length = 0 := by
        have := (List.getElem?_eq_some_iff.1 hk).1
        simp at this; omega
      rw [hk0] at hk
      exact .inr ⟨by omega, by simpa using hk.symm⟩
  refine ⟨by simp, by rw [nextL_sites, List.getLast?_concat], by rw [nextL_sites]; exact hn, ?_, ?_⟩
  · intro r hr
    obtain ⟨s, hs, rfl⟩ := List.mem_map.1 hr
    show 1 ≤ sinceN _ T s ∧ sinceN _ T s ≤ _
    rw [List.length_append, List.length_singleton]
    unfold sinceN
    split
    · rename_i r he
      have hm := List.mem_of_find?_eq_some he
      have := h.lo r hm
      split <;> omega
    · omega
  · intro r hr g hg
    obtain ⟨s, hs, rfl⟩ := List.mem_map.1 hr
    rw [List.length_append, List.length_singleton] at hg
    show sinceN _ T s ≤ _ ↔ ∀ k C', g ≤ k → (was ++ [C])[k]? = some C' → findS C' s.host = some s
    unfold sinceN
    have hC := findS_some hn hs
    split
    · rename_i r he
      have hm := List.mem_of_find?_eq_some he
      have hhost : r.1.host = s.host := by simpa using List.find?_some he
      split
      · rename_i hsame
        have hrs : r.1 = s := sameR_eq hsame hhost
        have h0 := h.since r hm
        have h1 := h.lo r hm
        rw [hrs] at h0
        constructor
        · intro hle k C' hgk hk
          rcases hat k C' hk with ⟨e1, e2⟩ | ⟨e1, rfl⟩
          · exact (h0 g (by omega)).1 hle k C' hgk e2
          · exact hC
        · intro hall
          by_cases e : g < was.length
          · exact (h0 g e).2 fun k C' hgk hk => hall k C' hgk (by rw [List.getElem?_append_left (List.getElem?_eq_some_iff.1 hk).1]; exact hk)
          · omega
      · rename_i hne
        constructor
        · intro hle k C' hgk hk
          rcases hat k C' hk with ⟨e1, e2⟩ | ⟨e1, rfl⟩
          · omega
          · exact hC
        · intro hall
          by_cases e : g < was.length
          · exfalso
            have := hall (was.length - 1) _ (by omega) (by rw [List.getElem?_append_left (by omega)]; exact hlast)
            rw [findT_map, he] at this
            simp only [Option.map_some, Option.some.injEq] at this
            rw [this] at hne
            exact hne (sameR_refl s)
          · omega
    · rename_i he
      constructor
      · intro hle k C' hgk hk
        rcases hat k C' hk with ⟨e1, e2⟩ | ⟨e1, rfl⟩
        · omega
        · exact hC
      · intro hall
        by_cases e : g < was.length
        · exfalso
          have := hall (was.length - 1) _ (by omega) (by rw [List.getElem?_append_left (by omega)]; exact hlast)
          rw [findT_map, he] at this
          cases this
        · omega
end Go.Pantry
namespace Go.Pantry
open Go.RowKit

def headsB (hs : List (List UInt8)) : Bool := decide (hs.length ≤ 4) && (List.range hs.length).all fun j => mayM (hs.take j) (hs.getD j [])
def rightZ (s : SiteZ) : Bool := ownH s.host && (decide (1 ≤ s.origin) && decide (s.origin ≤ 9)) && (decide (0 ≤ s.min) && decide (s.min ≤ s.max) && decide (s.max ≤ 2147483648)) && headsB s.heads
def okAt (L : List SiteZ) (k : Nat) : Bool := match L[k]? with
  | none => true
  | some s => rightZ s && !((L.take k).any fun x => x.host == s.host)
def rightC (L : List SiteZ) : Bool := decide (L.length ≤ 8) && (List.range L.length).all (okAt L)
def rightT (g : Int) (T : List (SiteZ × Int)) : Bool := (decide (0 ≤ g) && decide (g ≤ 253402300799)) && (T.all (fun r => decide (1 ≤ r.2) && decide (r.2 ≤ g)) && rightC (T.map (·.1)))
theorem headsB_all {hs : List (List UInt8)} (h4 : hs.length ≤ 4) (h : ∀ j x, hs[j]? = some x → mayM (hs.take j) x = true) : headsB hs = true := by
  unfold headsB
  rw [decide_eq_true h4, Bool.true_and, List.all_eq_true]
  intro j hj
  have hjl := List.mem_range.1 hj
  have := h j _ (List.getElem?_eq_getElem hjl)
  rw [List.getD, List.getElem?_eq_getElem hjl]
  exact this
theorem headsB_not {hs : List (List UInt8)} {j : Nat} {x : List UInt8} (hj : hs[j]? = some x) (h : mayM (hs.take j) x = false) : headsB hs = false := by
  unfold headsB
  rw [Bool.and_eq_false_iff]
  right
  rw [List.all_eq_false]
  refine ⟨j, List.mem_range.2 (List.getElem?_eq_some_iff.1 hj).1, ?_⟩
  rw [List.getD, hj, Option.getD_some, h]
  decide
theorem headsB_long {hs : List (List UInt8)} (h4 : 4 < hs.length) : headsB hs = false := by
  unfold headsB
  rw [decide_eq_false (by omega), Bool.false_and]
theorem headsB_iff {hs : List (List UInt8)} : headsB hs = true ↔ hs.length ≤ 4 ∧ ∀ j x, hs[j]? = some x → mayM (hs.take j) x = true := by
  constructor
  · intro h
    by_cases h4 : hs.length ≤ 4
    · refine ⟨h4, fun j x hj => ?_⟩
      cases e : mayM (hs.take j) x with
      | true => rfl
      | false => rw [headsB_not hj e] at h; cases h
    · rw [headsB_long (by omega)] at h; cases h
  · rintro ⟨h1, h2⟩
    exact headsB_all h1 h2
theorem rightC_all {L : List SiteZ} (h8 : L.length ≤ 8) (h : ∀ k s, L[k]? = some s → rightZ s = true ∧ ((L.take k).any fun x => x.host == s.host) = false) : rightC L = true := by
  unfold rightC
  rw [decide_eq_true h8, Bool.true_and, List.all_eq_true]
  intro k hk
  have hkl := List.mem_range.1 hk
  obtain ⟨h1, h2⟩ := h k _ (List.getElem?_eq_getElem hkl)
  unfold okAt
  rw [List.getElem?_eq_getElem hkl]
  simp only [h1, h2]
  rfl
theorem rightC_not {L : List SiteZ} {k : Nat} {s : SiteZ} (hk : L[k]? = some s) (h : rightZ s = false ∨ ((L.take k).any fun x => x.host == s.host) = true) : rightC L = false := by
  unfold rightC
  rw [Bool.and_eq_false_iff]
  right
  rw [List.all_eq_false]
  refine ⟨k, List.mem_range.2 (List.getElem?_eq_some_iff.1 hk).1, ?_⟩
  unfold okAt
  rw [hk]
  simp only
  rcases h with h | h <;> rw [h] <;> simp
theorem rightC_long {L : List SiteZ} (h : 8 < L.length) : rightC L = false := by
  unfold rightC
  rw [decide_eq_false (by omega), Bool.false_and]
theorem rightC_iff {L : List SiteZ} : rightC L = true ↔ L.length ≤ 8 ∧ (∀ s ∈ L, rightZ s = true) ∧ (L.map (·.host)).Nodup := by
  constructor
  · intro h
    by_cases h8 : L.length ≤ 8
    · have each : ∀ k s, L[k]? = some s → rightZ s = true ∧ ((L.take k).any fun x => x.host == s.host) = false := by
        intro k s hk
        cases e1 : rightZ s with
        | false => rw [rightC_not hk (.inl e1)] at h; cases h
        | true =>
          cases e2 : (L.take k).any fun x => x.host == s.host with
          | true => rw [rightC_not hk (.inr e2)] at h; cases h
          | false => exact ⟨rfl, rfl⟩
      refine ⟨h8, fun s hs => ?_, ?_⟩
      · obtain ⟨k, hk⟩ := List.getElem?_of_mem hs
        exact (each k s hk).1
      · rw [List.nodup_iff_pairwise_ne, List.pairwise_map, List.pairwise_iff_getElem]
        intro i j hi hj hij e
        have h2 := (each j _ (List.getElem?_eq_getElem hj)).2
        rw [List.any_eq_false] at h2
        have h3 := h2 L[i] (List.mem_of_getElem? (i := i) (by rw [List.getElem?_take, if_pos hij]; exact List.getElem?_eq_getElem hi))
        simp [e] at h3
    · rw [rightC_long (by omega)] at h; cases h
  · rintro ⟨h1, h2, h3⟩
    refine rightC_all h1 fun k s hk => ⟨h2 s (List.mem_of_getElem? hk), ?_⟩
    rw [List.any_eq_false]
    intro x hx e
    obtain ⟨i, hi⟩ := List.getElem?_of_mem hx
    rw [List.getElem?_take] at hi
    split at hi
    · rename_i hik
      rw [List.nodup_iff_pairwise_ne, List.pairwise_map, List.pairwise_iff_getElem] at h3
      obtain ⟨hil, rfl⟩ := List.getElem?_eq_some_iff.1 hi
      obtain ⟨hkl, rfl⟩ := List.getElem?_eq_some_iff.1 hk
      exact h3 i k hil hkl hik (by simpa using e)
    · cases hi
theorem rightC_nil : rightC [] = true := rightC_iff.2 ⟨by simp, fun s h => absurd h List.not_mem_nil, by simp⟩
theorem rightT_iff {g : Int} {T : List (SiteZ × Int)} : rightT g T = true ↔ (0 ≤ g ∧ g ≤ 253402300799) ∧ (∀ r ∈ T, 1 ≤ r.2 ∧ r.2 ≤ g) ∧ rightC (T.map (·.1)) = true := by
  unfold rightT
  simp only [Bool.and_eq_true, decide_eq_true_eq, List.all_eq_true]
theorem sinceN_le {g : Int} {T : List (SiteZ × Int)} (h : ∀ r ∈ T, 1 ≤ r.2 ∧ r.2 ≤ g) (hg : 0 ≤ g) (s : SiteZ) : 1 ≤ sinceN (g + 1) T s ∧ sinceN (g + 1) T s ≤ g + 1 := by
  unfold sinceN
  split
  · rename_i r he
    have := h r (List.mem_of_find?_eq_some he)
    split <;> omega
  · omega
theorem nextL_right {g : Int} {T : List (SiteZ × Int)} {C : List SiteZ} (h : rightT g T = true) (hC : rightC C = true) (hg : g < 253402300799) : rightT (g + 1) (nextL g T C) = true := by
  obtain ⟨h1, h2, h3⟩ := rightT_iff.1 h
  refine rightT_iff.2 ⟨by omega, fun r hr => ?_, by rw [nextL_sites]; exact hC⟩
  obtain ⟨s, hs, rfl⟩ := List.mem_map.1 hr
  exact sinceN_le h2 h1.1 s
theorem nextL_find (g : Int) (T : List (SiteZ × Int)) (C : List SiteZ) (h : List UInt8) : (nextL g T C).find? (fun r => r.1.host == h) = (findS C h).map fun s => (s, sinceN (g + 1) T s) := by
  unfold nextL findS
  rw [List.find?_map]
  rfl
/-- behind two changes, there and back -/
theorem back_new {g : Int} {T : List (SiteZ × Int)} {C : List SiteZ} {h : List UInt8} (hk : kindD (T.map (·.1)) C h = 3) : (nextL (g + 1) (nextL g T C) (T.map (·.1))).find? (fun r => r.1.host == h) = none := by
  rw [nextL_find, Option.map_eq_none_iff]
  unfold kindD at hk
  split at hk
  · cases hk
  · rename_i s hs
    unfold kindP at hk
    rw [(findS_host hs).1] at hk
    split at hk
    · assumption
    · split at hk <;> cases hk
theorem back_there {g : Int} {T : List (SiteZ × Int)} {C : List SiteZ} {h : List UInt8} (hm : h ∈ hostsP (T.map (·.1)) C) (hk : kindD (T.map (·.1)) C h ≠ 3) :
    ∃ r r', T.find? (fun r => r.1.host == h) = some r ∧ (nextL (g + 1) (nextL g T C) (T.map (·.1))).find? (fun r => r.1.host == h) = some r' ∧
      (kindD (T.map (·.1)) C h = 0 → r'.2 = r.2) ∧ (kindD (T.map (·.1)) C h = 1 ∨ kindD (T.map (·.1)) C h = 2 → r'.2 = g + 2) := by
  rw [nextL_find, findT_map]
  rw [hostsP_mem] at hm
  cases e1 : T.find? (fun r => r.1.host == h) with
  | none =>
    exfalso
    have e2 : findS (T.map (·.1)) h = none := by rw [findT_map, e1]; rfl
    have e3 : ¬ findS C h = none := fun e => by
      rw [findS_none] at e e2
      rcases hm with h1 | h1
      · exact e h1
      · exact e2 h1
    obtain ⟨s, hs⟩ := Option.ne_none_iff_exists'.1 e3
    apply hk
    unfold kindD
    rw [hs]
    simp only [kindP, (findS_host hs).1, e2]
  | some r =>
    have hrh : r.1.host = h := by simpa using List.find?_some e1
    refine ⟨r, (r.1, sinceN (g + 1 + 1) (nextL g T C) r.1), rfl, rfl, ?_, ?_⟩
    · intro h0
      show sinceN _ _ _ = _
      unfold sinceN
      rw [nextL_find, hrh]
      unfold kindD at h0
      cases e2 : findS C h with
      | none => rw [e2] at h0; cases h0
      | some s =>
        rw [e2] at h0
        have hsh := (findS_host e2).1
        simp only [kindP, hsh, findT_map, e1, Option.map_some] at h0
        have hs1 : sameR r.1 s = true := by
          cases e : sameR r.1 s with
          | true => rfl
          | false => rw [e] at h0; cases h0
        simp only [Option.map_some, sameR_symm s r.1, hs1, if_true]
        unfold sinceN
        rw [hsh, e1]
        simp only [hs1, if_true]
    · intro h0
      show sinceN _ _ _ = _
      unfold sinceN
      rw [nextL_find, hrh]
      unfold kindD at h0
      cases e2 : findS C h with
      | none => simp only [Option.map_none]; omega
      | some s =>
        rw [e2] at h0
        have hsh := (findS_host e2).1
        simp only [kindP, hsh, findT_map, e1, Option.map_some] at h0
        have hs1 : sameR r.1 s = false := by
          cases e : sameR r.1 s with
          | false => rfl
          | true => rw [e] at h0; rcases h0 with h0 | h0 <;> cases h0
        simp only [Option.map_some, sameR_symm s r.1, hs1]
        rw [if_neg (by decide)]; omega
end Go.Pantry
namespace Go.Pantry
open Go.RowKit

/-- a word without what ends one -/
def PW (w : List UInt8) : Prop := w ≠ [] ∧ ∀ c ∈ w, isGap c = false ∧ isMark c = false ∧ c ≠ 47
theorem rem_not47 {c : UInt8} (r : List UInt8) (h : c ≠ 47) : remB (c :: r) = false := by
  unfold remB
  rw [List.isPrefixOf]
  have : ((47 : UInt8) == c) = false := by simpa using Ne.symm h
  rw [this]; rfl
theorem run_pw : ∀ w : List UInt8, (∀ c ∈ w, isGap c = false ∧ isMark c = false ∧ c ≠ 47) → runL w = w
  | [], _ => rfl
  | c :: r, h => by
    obtain ⟨h1, h2, h3⟩ := h c (List.mem_cons_self ..)
    rw [runL_cons, h1, h2, rem_not47 r h3, run_pw r (fun d hd => h d (List.mem_cons_of_mem _ hd))]
    rfl
theorem PW.word {w : List UInt8} (h : PW w) : wordL w = w := by
  obtain ⟨c, r, rfl⟩ := List.exists_cons_of_ne_nil h.1
  obtain ⟨h1, h2, h3⟩ := h.2 c (List.mem_cons_self ..)
  unfold wordL
  simp only
  rw [h2, run_pw _ h.2]
  rfl
theorem PW.norm {w : List UInt8} (h : PW w) (r : List UInt8) : Norm (w ++ r) := by
  obtain ⟨c, t, rfl⟩ := List.exists_cons_of_ne_nil h.1
  obtain ⟨h1, h2, h3⟩ := h.2 c (List.mem_cons_self ..)
  unfold Norm
  rw [List.cons_append, skipL, h1, rem_not47 _ h3]
  rfl
theorem mark_not47 {d : UInt8} (h : isMark d = true) : d ≠ 47 := by rintro rfl; revert h; decide
theorem mark_nogap {d : UInt8} (h : isMark d = true) : isGap d = false := by
  unfold isMark at h
  simp only [Bool.or_eq_true, beq_iff_eq] at h
  rcases h with (rfl | rfl) | rfl <;> decide
theorem gap_ne47 {g : UInt8} (h : isGap g = true) : g ≠ 47 := by rintro rfl; revert h; decide
theorem ends_not47 {d : UInt8} (h : isGap d = true ∨ isMark d = true) : d ≠ 47 := h.elim (fun h => gap_ne47 h) mark_not47
theorem text_word {w : List UInt8} (h : PW w) {d : UInt8} (hd : isGap d = true ∨ isMark d = true) (r : List UInt8) : textW (w ++ d :: r) = w :: textW (d :: r) := by
  have hw : wordL (w ++ d :: r) = w := by rw [word_app hd (ends_not47 hd) h.1, h.word]
  unfold textW
  rw [show skipL false (w ++ d :: r) = w ++ d :: r from h.norm _, wordsL_cons (h.norm _) (by simp [h.1]), hw]
  congr 1
  unfold stepL
  rw [hw, List.drop_left]
theorem text_gap {g : UInt8} (h : isGap g = true) (r : List UInt8) : textW (g :: r) = textW r := by unfold textW; rw [skip_gap h]
theorem text_mark {d : UInt8} (h : isMark d = true) (r : List UInt8) : textW (d :: r) = [d] :: textW r := by
  have hn : Norm (d :: r) := by
    unfold Norm
    rw [skipL, mark_nogap h, rem_not47 r (mark_not47 h)]
    rfl
  have hw : wordL (d :: r) = [d] := by unfold wordL; simp only; rw [if_pos h]
  unfold textW
  rw [show skipL false (d :: r) = d :: r from hn, wordsL_cons hn (by simp), hw]
  congr 1
  unfold stepL
  rw [hw]
  rfl
theorem text_nil : textW [] = [] := rfl

/-- a number's digits -/
def decZ (n : Int) : List UInt8 := digF 11 n.toNat
def onW (b : Bool) : List UInt8 := if b then wOn else wOff
/-- headers of a key, and what stands behind -/
def headsT : List (List UInt8) → List UInt8 → List UInt8
  | [], r => r
  | h :: hs, r => 32 :: (wHeader ++ 32 :: (h ++ headsT hs r))
def queryT (b : Bool) (r : List UInt8) : List UInt8 := if b then 32 :: (wQuery ++ r) else r
/-- a site's plain text, and what stands behind -/
def plainR (s : SiteZ) (r : List UInt8) : List UInt8 :=
  wSite ++ 32 :: (s.host ++ 32 :: 123 :: 10 :: 32 :: 32 :: (wOrigin ++ 32 :: (decZ s.origin ++ 59 :: 10 :: 32 :: 32 :: (wTtl ++ 32 :: (decZ s.min ++ 32 :: (decZ s.max ++ 59 :: 10 :: 32 :: 32 :: (wKey ++ 32 :: (wPath ++ queryT s.query (headsT s.heads (59 :: 10 :: 32 :: 32 :: (wKeep ++ 32 :: (onW s.keep ++ 59 :: 10 :: 125 :: 10 :: r))))))))))))
def plainS (s : SiteZ) : List UInt8 := plainR s []
def plainC (C : List SiteZ) : List UInt8 := C.flatMap plainS
theorem headsT_app (hs : List (List UInt8)) (r t : List UInt8) : headsT hs r ++ t = headsT hs (r ++ t) := by
  induction hs with
  | nil => rfl
  | cons h hs ih => simp only [headsT, List.cons_append, List.append_assoc, ih]
theorem queryT_app (b : Bool) (r t : List UInt8) : queryT b r ++ t = queryT b (r ++ t) := by cases b <;> simp [queryT]
theorem plainR_app (s : SiteZ) (r t : List UInt8) : plainR s r ++ t = plainR s (r ++ t) := by
  simp only [plainR, List.cons_append, List.append_assoc, headsT_app, queryT_app]
theorem plainS_app (s : SiteZ) (r : List UInt8) : plainS s ++ r = plainR s r := by unfold plainS; rw [plainR_app]; rfl
/-- a site's words behind its host -/
def siteWs (s : SiteZ) : List (List UInt8) :=
  [123] :: wOrigin :: decZ s.origin :: [59] :: wTtl :: decZ s.min :: decZ s.max :: [59] :: wKey :: wPath :: ((if s.query then [wQuery] else []) ++ (s.heads.flatMap (fun h => [wHeader, h]) ++ [[59], wKeep, onW s.keep, [59], [125]]))
theorem pw_const {w : List UInt8} (h : (!w.isEmpty && w.all fun c => !isGap c && !isMark c && c != 47) = true) : PW w := by
  rw [Bool.and_eq_true] at h
  refine ⟨by rintro rfl; simp at h, fun c hc => ?_⟩
  have := List.all_eq_true.1 h.2 c hc
  simpa [and_assoc] using this
theorem pw_all {w : List UInt8} {p : UInt8 → Bool} (hp : ∀ c, p c = true → isGap c = false ∧ isMark c = false ∧ c ≠ 47) (h0 : w ≠ []) (h : w.all p = true) : PW w := ⟨h0, fun c hc => hp c (List.all_eq_true.1 h c hc)⟩
theorem byte_imp (p q : UInt8 → Bool) (h : (List.range 256).all (fun n => !p n.toUInt8 || q n.toUInt8) = true) (c : UInt8) (hc : p c = true) : q c = true := by
  have h1 := List.all_eq_true.1 h c.toNat (List.mem_range.2 c.toNat_lt)
  have e : c.toNat.toUInt8 = c := by simp
  rw [e, hc] at h1
  simpa using h1
def okB (c : UInt8) : Bool := !isGap c && !isMark c && c != 47
theorem okB_of {c : UInt8} (h : okB c = true) : isGap c = false ∧ isMark c = false ∧ c ≠ 47 := by
  unfold okB at h
  simpa [and_assoc] using h
theorem pw_dec (n : Int) : PW (decZ n) := pw_all (fun c hc => okB_of (byte_imp isDig okB (by decide +kernel) c hc)) (digF_ne 10 _) (digF_all 11 _)
theorem pw_tok {h : List UInt8} (ht : tokenL h = true) : PW h := by
  unfold tokenL at ht
  rw [Bool.and_eq_true] at ht
  refine pw_all (fun c hc => okB_of (byte_imp isTok okB (by decide +kernel) c hc)) ?_ ht.1
  rintro rfl
  simp at ht
def isHostB (c : UInt8) : Bool := isHC c || isDig c || c == 58
theorem pw_host {h : List UInt8} (ho : ownH h = true) : PW h := by
  refine ⟨ownH_ne ho, fun c hc => ?_⟩
  refine okB_of (byte_imp isHostB okB (by decide +kernel) c ?_)
  have hl : hostL h = some h := by unfold ownH at ho; simpa using ho
  unfold hostL at hl
  split at hl
  · cases hl
  · rename_i h1
    have hall : (bef 58 h).all isHC = true := by
      cases e : (bef 58 h).all isHC with
      | true => rfl
      | false => exact absurd (.inr (.inr e)) h1
    have hb : ∀ d ∈ bef 58 h, isHostB d = true := fun d hd => by
      have := List.all_eq_true.1 hall d hd
      unfold isHostB; rw [this]; rfl
    rcases bef_cases 58 h with ⟨_, e1, _, _⟩ | ⟨a, b, _, e1, e2, e3, _⟩
    · rw [e1] at hb; exact hb c hc
    · rw [e2] at hb
      rw [e3] at hl
      rw [e1] at hc
      rcases List.mem_append.1 hc with hc | hc
      · exact hb c hc
      · rcases List.mem_cons.1 hc with rfl | hc
        · decide
        · split at hl
          · rename_i hb0
            rw [hb0] at hc
            cases hc
          · split at hl
            · cases hl
            · rename_i h2
              have hd : b.all isDig = true := by
                cases e : b.all isDig with
                | true => rfl
                | false => exact absurd (.inr e) h2
              have := List.all_eq_true.1 hd c hc
              unfold isHostB; rw [this]; simp
theorem text_heads (hs : List (List UInt8)) (hp : ∀ h ∈ hs, PW h) (r : List UInt8) : textW (headsT hs (59 :: r)) = hs.flatMap (fun h => [wHeader, h]) ++ textW (59 :: r) := by
  induction hs with
  | nil => rfl
  | cons h hs ih =>
    have hh : PW wHeader := pw_const (by decide)
    obtain ⟨d, t, hd, ht⟩ : ∃ d t, (isGap d = true ∨ isMark d = true) ∧ headsT hs (59 :: r) = d :: t := by
      cases hs with
      | nil => exact ⟨59, r, .inr (by decide), rfl⟩
      | cons k hs => exact ⟨32, _, .inl (by decide), rfl⟩
    rw [headsT, text_gap (by decide), text_word hh (.inl (by decide)), text_gap (by decide), ht, text_word (hp h (List.mem_cons_self ..)) hd, ← ht, ih (fun k hk => hp k (List.mem_cons_of_mem _ hk)), List.flatMap_cons]
    rfl
theorem text_plain (s : SiteZ) (ho : ownH s.host = true) (hp : ∀ h ∈ s.heads, PW h) (r : List UInt8) : textW (plainR s r) = wSite :: s.host :: (siteWs s ++ textW r) := by
  have c1 : PW wSite := pw_const (by decide)
  have c2 : PW wOrigin := pw_const (by decide)
  have c3 : PW wTtl := pw_const (by decide)
  have c4 : PW wKey := pw_const (by decide)
  have c5 : PW wPath := pw_const (by decide)
  have c6 : PW wKeep := pw_const (by decide)
  have c7 : PW wQuery := pw_const (by decide)
  have c8 : PW (onW s.keep) := by cases s.keep <;> exact pw_const (by decide)
  have hg : isGap 32 = true := by decide
  have hg1 : isGap 10 = true := by decide
  have hm1 : isMark 59 = true := by decide
  have hm2 : isMark 123 = true := by decide
  have hm3 : isMark 125 = true := by decide
  have tail : ∀ u : List UInt8, textW (59 :: 10 :: 32 :: 32 :: (wKeep ++ 32 :: (onW s.keep ++ 59 :: 10 :: 125 :: 10 :: u))) = [59] :: wKeep :: onW s.keep :: [59] :: [125] :: textW u := fun u => by
    rw [text_mark hm1, text_gap hg1, text_gap hg, text_gap hg, text_word c6 (.inl hg), text_gap hg, text_word c8 (.inr hm1), text_mark hm1, text_gap hg1, text_mark hm3, text_gap hg1]
  have mid : textW (wPath ++ queryT s.query (headsT s.heads (59 :: 10 :: 32 :: 32 :: (wKeep ++ 32 :: (onW s.keep ++ 59 :: 10 :: 125 :: 10 :: r))))) =
      wPath :: ((if s.query then [wQuery] else []) ++ (s.heads.flatMap (fun h => [wHeader, h]) ++ ([59] :: wKeep :: onW s.keep :: [59] :: [125] :: textW r))) := by
    obtain ⟨d, t, hd, ht⟩ : ∃ d t, (isGap d = true ∨ isMark d = true) ∧ headsT s.heads (59 :: 10 :: 32 :: 32 :: (wKeep ++ 32 :: (onW s.keep ++ 59 :: 10 :: 125 :: 10 :: r))) = d :: t := by
      cases s.heads with
      | nil => exact ⟨59, _, .inr (by decide), rfl⟩
      | cons k hs => exact ⟨32, _, .inl (by decide), rfl⟩
    cases s.query with
    | false =>
      simp only [queryT, Bool.false_eq_true, if_false]
      rw [ht, text_word c5 hd, ← ht, text_heads _ hp, tail]
      rfl
    | true =>
      simp only [queryT, if_true]
      rw [text_word c5 (.inl hg), text_gap hg, ht, text_word c7 hd, ← ht, text_heads _ hp, tail]
      rfl
  unfold plainR
  rw [text_word c1 (.inl hg), text_gap hg, text_word (pw_host ho) (.inl hg), text_gap hg, text_mark hm2, text_gap hg1, text_gap hg, text_gap hg, text_word c2 (.inl hg), text_gap hg, text_word (pw_dec _) (.inr hm1), text_mark hm1, text_gap hg1, text_gap hg, text_gap hg,
    text_word c3 (.inl hg), text_gap hg, text_word (pw_dec _) (.inl hg), text_gap hg, text_word (pw_dec _) (.inr hm1), text_mark hm1, text_gap hg1, text_gap hg, text_gap hg, text_word c4 (.inl hg), text_gap hg, mid]
  simp only [siteWs, List.cons_append, List.append_assoc, List.nil_append]
end Go.Pantry
namespace Go.Pantry
open Go.RowKit

def SiteZ.m (s : SiteZ) : SiteM := ⟨s.host, s.origin.toNat, s.min.toNat, s.max.toNat, s.query, s.keep, s.heads⟩
theorem rightZ_iff {s : SiteZ} : rightZ s = true ↔ ownH s.host = true ∧ (1 ≤ s.origin ∧ s.origin ≤ 9) ∧ (0 ≤ s.min ∧ s.min ≤ s.max ∧ s.max ≤ 2147483648) ∧ headsB s.heads = true := by
  unfold rightZ
  simp only [Bool.and_eq_true, decide_eq_true_eq, and_assoc]
theorem right_z {s : SiteZ} (h : rightZ s = true) : s.m.z = s := by
  obtain ⟨_, h1, h2, _⟩ := rightZ_iff.1 h
  obtain ⟨a, b, c, d, e, f, g⟩ := s
  simp only [SiteZ.m, SiteM.z] at *
  rw [Int.toNat_of_nonneg (by omega), Int.toNat_of_nonneg (by omega), Int.toNat_of_nonneg (by omega)]
theorem digF_s (f n : Nat) : digF (f + 1) n = if n < 10 then [(48 + n).toUInt8] else digF f (n / 10) ++ [(48 + n % 10).toUInt8] := by rw [digF]
theorem digF_more : ∀ (f m : Nat), m < 10 ^ (f + 1) → digF (f + 1) m = digF (f + 2) m
  | 0, m, h => by
    have h' : m < 10 := by simpa using h
    rw [digF_s, digF_s 1, if_pos h', if_pos h']
  | f + 1, m, h => by
    have ih := digF_more f (m / 10) (by rw [Nat.div_lt_iff_lt_mul (by decide)]; rw [Nat.pow_succ] at h; exact h)
    rw [digF_s, digF_s (f + 2), ih]
theorem dec_ok {n : Int} (h : n ≤ 2147483648) : okD (decZ n) = true ∧ valD (decZ n) = n.toNat := by
  have h1 : (decZ n).length ≤ 10 := by
    have : ∀ m : Nat, m < 10 ^ 10 → (digF 11 m).length ≤ 10 := by
      intro m hm
      rw [← digF_more 9 m hm]
      exact digF_len 10 m
    exact this _ (by omega)
  have h2 := digF_all 11 n.toNat
  have h3 := digF_ne 10 n.toNat
  have h4 : okD (decZ n) = true := by
    unfold okD decZ at *
    rw [h2, decide_eq_true h1]
    cases e : digF 11 n.toNat with
    | nil => exact absurd e h3
    | cons a b => rfl
  refine ⟨h4, ?_⟩
  unfold valD
  rw [if_pos h4]
  exact digF_val 10 _ (by omega)
/-! the loops, without their measures -/
def keyE (s : SiteM) (p : Ps) : SiteM × Ps := keyF (meas p) s p
theorem keyE_go {s : SiteM} {p : Ps} (h : keyGo p = true) : keyE s p = keyE (keyR s p).1 (keyR s p).2 := by
  have hl := keyR_less (s := s) h
  unfold keyE
  obtain ⟨n, hn⟩ : ∃ n, meas p = n + 1 := ⟨meas p - 1, by omega⟩
  rw [hn, keyF, if_pos h]
  exact keyF_fuel _ _ _ _ (by omega) (Nat.le_refl _)
theorem keyE_stop {s : SiteM} {p : Ps} (h : keyGo p = false) : keyE s p = (s, p) := by
  unfold keyE
  cases meas p with
  | zero => rfl
  | succ n => rw [keyF, h]; rfl
def ruleE (s : SiteM) (seen : List (List UInt8)) (p : Ps) : SiteM × Ps := ruleF (meas p) s seen p
theorem ruleE_go {s : SiteM} {seen : List (List UInt8)} {p : Ps} (h : ruleGo p = true) : ruleE s seen p = ruleE (ruleM s seen p).1 (ruleM s seen p).2.1 (ruleM s seen p).2.2 := by
  have hl := rule_less (s := s) (seen := seen) h
  unfold ruleE
  obtain ⟨n, hn⟩ : ∃ n, meas p = n + 1 := ⟨meas p - 1, by omega⟩
  rw [hn, ruleF, if_pos h]
  exact ruleF_fuel _ _ _ _ _ (by omega) (Nat.le_refl _)
theorem ruleE_stop {s : SiteM} {seen : List (List UInt8)} {p : Ps} (h : ruleGo p = false) : ruleE s seen p = (s, p) := by
  unfold ruleE
  cases meas p with
  | zero => rfl
  | succ n => rw [ruleF, h]; rfl

abbrev ps (q : Nat) (l : List (List UInt8)) : Ps := ⟨0, q, l⟩
theorem chk_yes {b : Bool} (h : b = true) (c : Nat) (p : Ps) : chk b c p = p := by subst h; exact chk_true c p
theorem exp_yes (w : List UInt8) (q : Nat) (l : List (List UInt8)) : expM w (ps q (w :: l)) = ps q l := by
  unfold expM
  rw [chk_yes (by simp [hdW])]
  rfl
theorem once_yes {seen : List (List UInt8)} {w : List UInt8} (h : seen.contains w = false) (q : Nat) (l : List (List UInt8)) : onceM seen (ps q (w :: l)) = ps q l := by
  unfold onceM
  rw [chk_yes (by show (!(seen.contains w)) = true; rw [h]; rfl)]
  rfl
theorem num_yes {lo hi : Nat} {w : List UInt8} (h : okD w = true) (h1 : lo ≤ valD w) (h2 : valD w ≤ hi) (q : Nat) (l : List (List UInt8)) : numM lo hi (ps q (w :: l)) = ps q l := by
  unfold numM
  have e : hdW (ps q (w :: l)) = w := rfl
  rw [e, chk_yes h, chk_yes (by simp [h1, h2])]
  rfl
theorem name_yes {heads : List (List UInt8)} {w : List UInt8} (h4 : heads.length < 4) (h : mayM heads w = true) (q : Nat) (l : List (List UInt8)) : nameM heads (ps q (w :: l)) = ps q l := by
  unfold nameM
  have e : hdW (ps q (w :: l)) = w := rfl
  rw [e, chk_yes h, chk_yes (by simp [h4])]
  rfl
theorem key_heads (q : Nat) (r : List (List UInt8)) : ∀ (rest pre : List (List UInt8)) (s : SiteM), s.heads = pre → headsB (pre ++ rest) = true →
    keyE s (ps q (rest.flatMap (fun h => [wHeader, h]) ++ [59] :: r)) = ({ s with heads := pre ++ rest }, ps q ([59] :: r))
  | [], pre, s, hs, _ => by
    rw [List.flatMap_nil, List.nil_append, keyE_stop (by unfold keyGo hdW; simp), List.append_nil]
    subst hs
    rfl
  | h :: rest, pre, s, hs, hb => by
    obtain ⟨h4, hm⟩ := headsB_iff.1 hb
    rw [List.length_append, List.length_cons] at h4
    have hm1 := hm pre.length h (by rw [List.getElem?_append_right (Nat.le_refl _)]; simp)
    rw [List.take_left] at hm1
    rw [List.flatMap_cons, List.append_assoc]
    have hstep : keyR s (ps q ([wHeader, h] ++ (rest.flatMap (fun h => [wHeader, h]) ++ [59] :: r))) = ({ s with heads := pre ++ [h] }, ps q (rest.flatMap (fun h => [wHeader, h]) ++ [59] :: r)) := by
      unfold keyR
      have e : hdW (ps q ([wHeader, h] ++ (rest.flatMap (fun h => [wHeader, h]) ++ [59] :: r))) = wHeader := rfl
      rw [e, if_neg (by decide), if_pos (by decide)]
      subst hs
      refine Prod.ext rfl ?_
      exact name_yes (by omega) hm1 q _
    rw [keyE_go (by unfold keyGo hdW; simp; decide), hstep]
    have := key_heads q r rest (pre ++ [h]) { s with heads := pre ++ [h] } rfl (by rw [List.append_assoc]; exact hb)
    rw [this, List.append_assoc]
    rfl
theorem key_yes (q : Nat) (r : List (List UInt8)) (b : Bool) (hs : List (List UInt8)) (s : SiteM) (h0 : s.heads = []) (hb : headsB hs = true) :
    keyM s (ps q (wPath :: ((if b then [wQuery] else []) ++ (hs.flatMap (fun h => [wHeader, h]) ++ [59] :: r)))) = ({ s with query := b, heads := hs }, ps q ([59] :: r)) := by
  unfold keyM
  rw [exp_yes]
  change keyE _ _ = _
  cases b with
  | false => exact key_heads q r hs [] { s with query := false } h0 hb
  | true =>
    rw [keyE_go (by unfold keyGo hdW; simp; decide)]
    have hstep : keyR { s with query := false } (ps q ((if true = true then [wQuery] else []) ++ (hs.flatMap (fun h => [wHeader, h]) ++ [59] :: r))) = ({ s with query := true }, ps q (hs.flatMap (fun h => [wHeader, h]) ++ [59] :: r)) := by
      unfold keyR
      have e : hdW (ps q ((if true = true then [wQuery] else []) ++ (hs.flatMap (fun h => [wHeader, h]) ++ [59] :: r))) = wQuery := rfl
      rw [e, if_pos (by decide)]
      rfl
    rw [hstep]
    exact key_heads q r hs [] { s with query := true } h0 hb
theorem hd_cons (q : Nat) (w : List UInt8) (l : List (List UInt8)) : hdW (ps q (w :: l)) = w := rfl
theorem rules_yes (s : SiteZ) (h : rightZ s = true) (q : Nat) (x : List (List UInt8)) :
    ruleE (site0 s.host) [] (ps q ((siteWs s).tail ++ x)) = (s.m, ps q ([125] :: x)) := by
  obtain ⟨_, ⟨o1, o2⟩, ⟨m1, m2, m3⟩, hh⟩ := rightZ_iff.1 h
  obtain ⟨d1, v1⟩ := dec_ok (n := s.origin) (by omega)
  obtain ⟨d2, v2⟩ := dec_ok (n := s.min) (by omega)
  obtain ⟨d3, v3⟩ := dec_ok (n := s.max) (by omega)
  have go : ∀ (w : List UInt8) (l : List (List UInt8)), (w != [125]) = true → ruleGo (ps q (w :: l)) = true := fun w l hw => by
    unfold ruleGo; rw [hd_cons, hw]; rfl
  simp only [siteWs, List.tail_cons, List.cons_append, List.append_assoc, List.nil_append]
  -- origin
  rw [ruleE_go (go _ _ (by decide))]
  have r1 : ∀ l : List (List UInt8), ruleM (site0 s.host) [] (ps q (wOrigin :: decZ s.origin :: [59] :: l)) = ({ site0 s.host with origin := s.origin.toNat }, [wOrigin], ps q l) := fun l => by
    unfold ruleM
    rw [hd_cons, if_pos (by decide), once_yes (by rfl)]
    have : kindM wOrigin (site0 s.host) (ps q (decZ s.origin :: [59] :: l)) = ({ site0 s.host with origin := s.origin.toNat }, ps q ([59] :: l)) := by
      unfold kindM originM
      rw [if_pos (by decide), hd_cons, v1, num_yes d1 (by omega) (by omega)]
    rw [this, exp_yes]
  rw [r1]
  -- ttl
  rw [ruleE_go (go _ _ (by decide))]
  have r2 : ∀ l : List (List UInt8), ruleM { site0 s.host with origin := s.origin.toNat } [wOrigin] (ps q (wTtl :: decZ s.min :: decZ s.max :: [59] :: l)) = ({ site0 s.host with origin := s.origin.toNat, min := s.min.toNat, max := s.max.toNat }, [wTtl, wOrigin], ps q l) := fun l => by
    unfold ruleM
    rw [hd_cons, if_pos (by decide), once_yes (by decide)]
    have : kindM wTtl { site0 s.host with origin := s.origin.toNat } (ps q (decZ s.min :: decZ s.max :: [59] :: l)) = ({ site0 s.host with origin := s.origin.toNat, min := s.min.toNat, max := s.max.toNat }, ps q ([59] :: l)) := by
      unfold kindM ttlM
      rw [if_neg (by decide), if_pos (by decide), hd_cons, v2, num_yes d2 (by omega) (by omega), hd_cons, v3, num_yes d3 (by omega) (by omega)]
    rw [this, exp_yes]
  simp only
  rw [r2]
  -- key
  rw [ruleE_go (go _ _ (by decide))]
  have r3 : ∀ l : List (List UInt8), ruleM { site0 s.host with origin := s.origin.toNat, min := s.min.toNat, max := s.max.toNat } [wTtl, wOrigin] (ps q (wKey :: wPath :: ((if s.query then [wQuery] else []) ++ (s.heads.flatMap (fun h => [wHeader, h]) ++ [59] :: l)))) =
      ({ site0 s.host with origin := s.origin.toNat, min := s.min.toNat, max := s.max.toNat, query := s.query, heads := s.heads }, [wKey, wTtl, wOrigin], ps q l) := fun l => by
    unfold ruleM
    rw [hd_cons, if_pos (by decide), once_yes (by decide)]
    have : kindM wKey { site0 s.host with origin := s.origin.toNat, min := s.min.toNat, max := s.max.toNat } (ps q (wPath :: ((if s.query then [wQuery] else []) ++ (s.heads.flatMap (fun h => [wHeader, h]) ++ [59] :: l)))) =
        ({ site0 s.host with origin := s.origin.toNat, min := s.min.toNat, max := s.max.toNat, query := s.query, heads := s.heads }, ps q ([59] :: l)) := by
      unfold kindM
      rw [if_neg (by decide), if_neg (by decide), if_pos (by decide), key_yes q l s.query s.heads _ rfl hh]
    rw [this, exp_yes]
  simp only
  rw [r3]
  -- keep
  rw [ruleE_go (go _ _ (by decide))]
  have r4 : ∀ l : List (List UInt8), ruleM { site0 s.host with origin := s.origin.toNat, min := s.min.toNat, max := s.max.toNat, query := s.query, heads := s.heads } [wKey, wTtl, wOrigin] (ps q (wKeep :: onW s.keep :: [59] :: l)) =
      (s.m, [wKeep, wKey, wTtl, wOrigin], ps q l) := fun l => by
    unfold ruleM
    rw [hd_cons, if_pos (by decide), once_yes (by decide)]
    have hk : (onW s.keep == wOn) = s.keep := by cases s.keep <;> decide
    have hk2 : (onW s.keep == wOn || onW s.keep == wOff) = true := by cases s.keep <;> decide
    have : kindM wKeep { site0 s.host with origin := s.origin.toNat, min := s.min.toNat, max := s.max.toNat, query := s.query, heads := s.heads } (ps q (onW s.keep :: [59] :: l)) = (s.m, ps q ([59] :: l)) := by
      unfold kindM keepM
      rw [if_neg (by decide), if_neg (by decide), if_neg (by decide), hd_cons, chk_yes hk2, hk]
      rfl
    rw [this, exp_yes]
  simp only
  rw [r4]
  exact ruleE_stop rfl
theorem site_yes (s : SiteZ) (h : rightZ s = true) (hosts : List (List UInt8)) (hc : hosts.contains s.host = false) (q : Nat) (x : List (List UInt8)) :
    siteM hosts (ps q (s.host :: (siteWs s ++ x))) = (s.m, ps q x) := by
  have e : headM hosts (ps q (s.host :: (siteWs s ++ x))) = ps q ((siteWs s).tail ++ x) := by
    unfold headM
    rw [hd_cons, chk_yes (rightZ_iff.1 h).1, once_yes hc]
    exact exp_yes _ _ _
  unfold siteM
  rw [e, hd_cons]
  change ((ruleE _ _ _).1, expM [125] (ruleE _ _ _).2) = _
  rw [rules_yes s h, exp_yes]
theorem cfg_yes (q : Nat) : ∀ (k : Nat) (rest c : List SiteZ) (l : List (List UInt8)), l = rest.flatMap (fun s => wSite :: s.host :: siteWs s) → l.length + 1 ≤ k → (c ++ rest).length ≤ 8 → (∀ s ∈ rest, rightZ s = true) → ((c ++ rest).map (·.host)).Nodup →
    cfgF k (c.map SiteZ.m) (c.map (·.host)).reverse (ps q l) = ((c ++ rest).map SiteZ.m, ps q [])
  | k, [], c, l, hl, hk, _, _, _ => by
    subst hl
    cases k with
    | zero => simp at hk
    | succ k =>
      rw [cfgF, if_neg (by simp [cfgGo, hdW]), List.append_nil]
      rfl
  | 0, s :: rest, c, l, hl, hk, _, _, _ => by simp at hk
  | k + 1, s :: rest, c, l, hl, hk, h8, hr, hn => by
    subst hl
    rw [List.flatMap_cons] at hk ⊢
    have hs := hr s (List.mem_cons_self ..)
    rw [List.length_append, List.length_cons] at h8
    have hat : atSite (c.map SiteZ.m).length (ps q (wSite :: s.host :: siteWs s ++ rest.flatMap (fun s => wSite :: s.host :: siteWs s))) = ps q (s.host :: (siteWs s ++ rest.flatMap (fun s => wSite :: s.host :: siteWs s))) := by
      unfold atSite
      rw [chk_yes (by rw [List.length_map]; exact decide_eq_true (by omega)), chk_yes (by simp [hdW])]
      rfl
    have hc : (c.map (·.host)).reverse.contains s.host = false := by
      rw [Bool.eq_false_iff]
      intro e
      rw [List.contains_iff_mem, List.mem_reverse] at e
      rw [List.map_append, List.nodup_append] at hn
      exact hn.2.2 _ e _ (List.mem_map.2 ⟨s, List.mem_cons_self .., rfl⟩) rfl
    rw [cfgF, if_pos (by simp [cfgGo, hdW]; decide), hat, hd_cons, site_yes s hs _ hc]
    have := cfg_yes q k rest (c ++ [s]) _ rfl (by simp only [List.length_append, List.length_cons] at hk; omega) (by simp; omega) (fun t ht => hr t (List.mem_cons_of_mem _ ht)) (by simpa using hn)
    rw [List.append_assoc, List.map_append, List.map_append, List.reverse_append] at this
    simpa using this
theorem mayM_pw {heads : List (List UInt8)} {n : List UInt8} (h : mayM heads n = true) : PW n := by
  unfold mayM nameOk at h
  simp only [Bool.and_eq_true] at h
  exact pw_tok h.1.1.1
theorem heads_pw {hs : List (List UInt8)} (h : headsB hs = true) : ∀ x ∈ hs, PW x := fun x hx => by
  obtain ⟨j, hj⟩ := List.getElem?_of_mem hx
  exact mayM_pw ((headsB_iff.1 h).2 j x hj)
theorem text_plains : ∀ (C : List SiteZ), (∀ s ∈ C, rightZ s = true) → textW (plainC C) = C.flatMap (fun s => wSite :: s.host :: siteWs s)
  | [], _ => rfl
  | s :: C, h => by
    have hs := rightZ_iff.1 (h s (List.mem_cons_self ..))
    unfold plainC
    rw [List.flatMap_cons, plainS_app, text_plain s hs.1 (heads_pw hs.2.2.2), List.flatMap_cons]
    have := text_plains C (fun t ht => h t (List.mem_cons_of_mem _ ht))
    unfold plainC at this
    rw [this]
    rfl
/-- a right config's plain text is read as it -/
theorem read_plains {C : List SiteZ} (h : rightC C = true) (hl : (plainC C).length ≤ 4096) : readM (plainC C) = (C.map SiteZ.m, 0, 0) := by
  obtain ⟨h8, hr, hn⟩ := rightC_iff.1 h
  have e : cfgM (plainC C) = (C.map SiteZ.m, ps 0 []) := by
    unfold cfgM ps0
    exact cfg_yes 0 _ C [] (textW (plainC C)) (text_plains C hr) (by unfold meas; simp) h8 hr hn
  rw [readM_short hl, e]
  rfl
theorem right_zs {C : List SiteZ} (h : rightC C = true) : (C.map SiteZ.m).map SiteM.z = C := by
  obtain ⟨_, hr, _⟩ := rightC_iff.1 h
  rw [List.map_map]
  exact (List.map_congr_left fun s hs => right_z (hr s hs)).trans (List.map_id _)
end Go.Pantry
namespace Go.Pantry
open Go.RowKit

/-- a site's rules are right -/
def OkS (s : SiteM) : Prop := (1 ≤ s.origin ∧ s.origin ≤ 9) ∧ (s.min ≤ s.max ∧ s.max ≤ 2147483648) ∧ headsB s.heads = true
theorem headsB_snoc {hs : List (List UInt8)} {n : List UInt8} (h : headsB hs = true) (hm : mayM hs n = true) (h4 : hs.length < 4) : headsB (hs ++ [n]) = true := by
  obtain ⟨h1, h2⟩ := headsB_iff.1 h
  refine headsB_iff.2 ⟨by simp; omega, fun j x hj => ?_⟩
  by_cases e : j < hs.length
  · rw [List.getElem?_append_left e] at hj
    rw [List.take_append_of_le_length (by omega)]
    exact h2 j x hj
  · rw [List.getElem?_append_right (by omega)] at hj
    have hj0 : j = hs.length := by
      have := (List.getElem?_eq_some_iff.1 hj).1
      simp at this; omega
    subst hj0
    rw [Nat.sub_self] at hj
    obtain rfl : n = x := by simpa using hj
    rw [List.take_left]
    exact hm
theorem keyR_heads {s : SiteM} {p : Ps} (hb : headsB s.heads = true) (h : (keyR s p).2.code = 0) : headsB (keyR s p).1.heads = true ∧ (keyR s p).1.origin = s.origin ∧ (keyR s p).1.min = s.min ∧ (keyR s p).1.max = s.max := by
  unfold keyR at h ⊢
  split
  · exact ⟨hb, rfl, rfl, rfl⟩
  · split
    · rename_i h1 h2
      rw [if_neg h1, if_pos h2] at h
      obtain ⟨_, k2, k3, _⟩ := name_app [] h
      exact ⟨headsB_snoc hb k2 k3, rfl, rfl, rfl⟩
    · exact ⟨hb, rfl, rfl, rfl⟩
theorem keyF_heads : ∀ (k : Nat) (s : SiteM) (p : Ps), headsB s.heads = true → (keyF k s p).2.code = 0 → headsB (keyF k s p).1.heads = true ∧ (keyF k s p).1.origin = s.origin ∧ (keyF k s p).1.min = s.min ∧ (keyF k s p).1.max = s.max
  | 0, s, p, hb, _ => ⟨hb, rfl, rfl, rfl⟩
  | k + 1, s, p, hb, h => by
    rw [keyF] at h ⊢
    split
    · rename_i hg
      rw [if_pos hg] at h
      obtain ⟨h1, h2, h3, h4⟩ := keyR_heads (s := s) (p := p) hb ((fol_keyF k _ _).ok h)
      obtain ⟨k1, k2, k3, k4⟩ := keyF_heads k _ _ h1 h
      exact ⟨k1, k2.trans h2, k3.trans h3, k4.trans h4⟩
    · exact ⟨hb, rfl, rfl, rfl⟩
theorem kind_ok {w : List UInt8} {s : SiteM} {p : Ps} (hs : OkS s) (h : (kindM w s p).2.code = 0) : OkS (kindM w s p).1 := by
  obtain ⟨h1, h2, h3⟩ := hs
  unfold kindM at h ⊢
  split
  · rename_i e
    rw [if_pos e] at h
    obtain ⟨_, _, k3, k4, _⟩ := num_app [] h
    exact ⟨⟨k3, k4⟩, h2, h3⟩
  · rename_i e
    rw [if_neg e] at h
    split
    · rename_i e2
      rw [if_pos e2] at h
      obtain ⟨_, _, k3, k4, _⟩ := num_app [] h
      exact ⟨h1, ⟨k3, k4⟩, h3⟩
    · rename_i e2
      rw [if_neg e2] at h
      split
      · rename_i e3
        rw [if_pos e3] at h
        obtain ⟨k1, k2, k3, k4⟩ := keyF_heads _ _ _ (by exact h3) h
        refine ⟨?_, ?_, k1⟩
        · show 1 ≤ (keyF _ _ _).1.origin ∧ (keyF _ _ _).1.origin ≤ 9
          rw [k2]; exact h1
        · show (keyF _ _ _).1.min ≤ (keyF _ _ _).1.max ∧ (keyF _ _ _).1.max ≤ _
          rw [k3, k4]; exact h2
      · exact ⟨h1, h2, h3⟩
theorem rule_ok {s : SiteM} {seen : List (List UInt8)} {p : Ps} (hs : OkS s) (h : (ruleM s seen p).2.2.code = 0) : OkS (ruleM s seen p).1 := by
  unfold ruleM at h ⊢
  split
  · rename_i e
    rw [if_pos e] at h
    exact kind_ok hs ((fol_exp _ _).ok h)
  · exact hs
theorem ruleF_ok : ∀ (k : Nat) (s : SiteM) (seen : List (List UInt8)) (p : Ps), OkS s → (ruleF k s seen p).2.code = 0 → OkS (ruleF k s seen p).1
  | 0, s, seen, p, hs, _ => hs
  | k + 1, s, seen, p, hs, h => by
    rw [ruleF] at h ⊢
    split
    · rename_i e
      rw [if_pos e] at h
      exact ruleF_ok k _ _ _ (rule_ok hs ((fol_ruleF k _ _ _).ok h)) h
    · exact hs
theorem site0_ok (h : List UInt8) : OkS (site0 h) := ⟨⟨Nat.le_refl _, (by decide : 1 ≤ 9)⟩, ⟨(by decide : 0 ≤ 3600), (by decide : 3600 ≤ 2147483648)⟩, (by decide : headsB [] = true)⟩
theorem site_right {hosts : List (List UInt8)} {p : Ps} (h : (siteM hosts p).2.code = 0) : rightZ (siteM hosts p).1.z = true := by
  obtain ⟨_, _, k3, _⟩ := site_app [] h
  have hr : OkS (siteM hosts p).1 := ruleF_ok _ _ _ _ (site0_ok _) ((fol_exp _ _).ok h)
  obtain ⟨h1, h2, h3⟩ := hr
  have hh := site_host' hosts p
  refine rightZ_iff.2 ⟨?_, ?_, ?_, h3⟩
  · show ownH (siteM hosts p).1.host = true
    rw [hh]; exact k3
  · show (1 : Int) ≤ ((siteM hosts p).1.origin : Int) ∧ ((siteM hosts p).1.origin : Int) ≤ 9
    omega
  · show (0 : Int) ≤ ((siteM hosts p).1.min : Int) ∧ ((siteM hosts p).1.min : Int) ≤ ((siteM hosts p).1.max : Int) ∧ ((siteM hosts p).1.max : Int) ≤ 2147483648
    omega
theorem cfg_right : ∀ (k : Nat) (c : List SiteM) (hosts : List (List UInt8)) (p : Ps), hosts = hostsR c → rightC (c.map SiteM.z) = true → (cfgF k c hosts p).2.code = 0 → rightC ((cfgF k c hosts p).1.map SiteM.z) = true
  | 0, c, hosts, p, _, hr, _ => hr
  | k + 1, c, hosts, p, hh, hr, h => by
    rw [cfgF] at h ⊢
    split
    · rename_i hg
      rw [if_pos hg] at h
      have h1 := (fol_cfgF k _ _ _).ok h
      obtain ⟨_, k2, k3, k4⟩ := site_app [] h1
      obtain ⟨a1, a2, a3, a4, a5⟩ := at_app [] k2
      have hhost := site_host' hosts (atSite c.length p)
      refine cfg_right k _ _ _ ?_ ?_ h
      · unfold hostsR
        rw [List.map_append, List.reverse_append, hh]
        simp only [List.map_cons, List.map_nil, List.reverse_cons, List.reverse_nil, List.nil_append, List.singleton_append]
        rw [hh] at hhost
        rw [hhost]; rfl
      · obtain ⟨r1, r2, r3⟩ := rightC_iff.1 hr
        refine rightC_iff.2 ⟨by simp; omega, ?_, ?_⟩
        · intro s hs
          rw [List.map_append] at hs
          rcases List.mem_append.1 hs with hs | hs
          · exact r2 s hs
          · obtain rfl : s = (siteM hosts (atSite c.length p)).1.z := by simpa using hs
            exact site_right h1
        · rw [List.map_append, List.map_append, List.nodup_append]
          refine ⟨r3, by simp, ?_⟩
          intro a ha b hb e
          subst e
          have hb' : a = hdW (atSite c.length p) := by
            have : a = (siteM hosts (atSite c.length p)).1.host := by simpa [SiteM.z] using hb
            rw [this, hhost]
          have : hosts.contains (hdW (atSite c.length p)) = true := by
            rw [List.contains_iff_mem, hh, ← hb']
            unfold hostsR
            rw [List.mem_reverse]
            rw [List.map_map] at ha
            exact ha
          rw [k4] at this
          cases this
    · exact hr
/-- what is read is right -/
theorem read_right {t : List UInt8} (h : (readM t).2.1 = 0) : rightC ((readM t).1.map SiteM.z) = true := by
  by_cases hl : 4096 < t.length
  · rw [readM_long hl] at h; cases h
  · rw [readM_short (by omega)] at h ⊢
    split
    · rename_i hc
      exact cfg_right _ _ _ _ rfl rightC_nil hc
    · exact rightC_nil
theorem z_inj {a b : SiteM} (h : a.z = b.z) : a = b := by
  obtain ⟨a0, a1, a2, a3, a4, a5, a6⟩ := a
  obtain ⟨b0, b1, b2, b3, b4, b5, b6⟩ := b
  simp only [SiteM.z, SiteZ.mk.injEq, Int.ofNat_inj] at h
  obtain ⟨rfl, rfl, rfl, rfl, rfl, rfl, rfl⟩ := h
  rfl
/-- a text that is read, and its plain text -/
theorem read_again {t : List UInt8} (h : (readM t).2.1 = 0) (hl : (plainC ((readM t).1.map SiteM.z)).length ≤ 4096) : readM (plainC ((readM t).1.map SiteM.z)) = ((readM t).1, 0, 0) := by
  rw [read_plains (read_right h) hl]
  have := right_zs (read_right h)
  congr 1
  rw [List.map_map] at this ⊢
  rw [List.map_congr_left (g := id) fun s _ => z_inj ?_, List.map_id]
  show ((s.z).m).z = s.z
  have hr := (rightC_iff.1 (read_right h)).2.1
  exact right_z (hr _ (List.mem_map.2 ⟨s, ‹_›, rfl⟩))
end Go.Pantry
/-
  Keys: marks, the key, the second key, the names that vary. No program is imported.
-/
namespace Go.Pantry
open Go.RowKit

/-- the mark of a text -/
def markT (x : List UInt8) : List UInt8 := decL x.length ++ 58 :: x
/-- the mark of a field of a name -/
def markF (l : List Fld) (n : List UInt8) : List UInt8 := if allF l n = [] then [45] else 61 :: markT (getF l n)
def secondL (l : List Fld) (ns : List (List UInt8)) : List UInt8 := ns.flatMap (markF l)
def queryK (q : Bool) (p : PlaceR) : List UInt8 := if q then (if p.has then 63 :: markT p.query else [33]) else []
def firstL (q : Bool) (heads : List (List UInt8)) (p : PlaceR) (l : List Fld) : List UInt8 := markT p.host ++ (markT p.path ++ (queryK q p ++ secondL l heads))
theorem decL_dig (n : Nat) : (decL n).all isDig = true := by
  rw [decL_digF n n (Nat.lt_of_lt_of_le (Nat.lt_pow_self (by decide)) (Nat.pow_le_pow_right (by decide) (Nat.le_succ n)))]
  exact digF_all _ _
theorem decL_val (n : Nat) : valL (decL n) = n := by
  have h : n < 10 ^ (n + 1) := Nat.lt_of_lt_of_le (Nat.lt_pow_self (by decide)) (Nat.pow_le_pow_right (by decide) (Nat.le_succ n))
  rw [decL_digF n n h]; exact digF_val n n h
theorem decL_cancel {m n : Nat} {r s : List UInt8} (h : decL m ++ 58 :: r = decL n ++ 58 :: s) : m = n ∧ r = s := by
  have key : ∀ (a : List UInt8) (r : List UInt8), a.all isDig = true → (a ++ 58 :: r).takeWhile isDig = a := by
    intro a r ha
    rw [List.takeWhile_append_of_pos (fun c hc => List.all_eq_true.1 ha c hc)]
    simp [List.takeWhile_cons, isDig]
  have h1 : decL m = decL n := by rw [← key (decL m) r (decL_dig m), h, key _ _ (decL_dig n)]
  have h2 : m = n := by rw [← decL_val m, h1, decL_val]
  subst h2
  have h3 := List.append_cancel_left h
  exact ⟨rfl, List.tail_eq_of_cons_eq h3⟩
theorem markT_cancel {a b r s : List UInt8} : markT a ++ r = markT b ++ s ↔ a = b ∧ r = s := by
  constructor
  · intro h
    simp only [markT, List.append_assoc, List.cons_append] at h
    obtain ⟨h1, h2⟩ := decL_cancel h
    exact List.append_inj h2 h1
  · rintro ⟨rfl, rfl⟩; rfl
/-- is a name's field the same in both? -/
def sameN (a b : List Fld) (n : List UInt8) : Bool := ((decide (0 < (allF a n).length) == decide (0 < (allF b n).length)) && getF a n == getF b n)
theorem getF_none {a : List Fld} {n : List UInt8} (h : allF a n = []) : getF a n = [] := by unfold getF; rw [h]; rfl
theorem markF_cancel {a b : List Fld} {n r s : List UInt8} : markF a n ++ r = markF b n ++ s ↔ sameN a b n = true ∧ r = s := by
  have p : ∀ l : List Fld, decide (0 < (allF l n).length) = !decide (allF l n = []) := fun l => by
    cases allF l n <;> simp
  unfold markF sameN
  rw [p, p]
  by_cases ha : allF a n = []
  · by_cases hb : allF b n = []
    · rw [if_pos ha, if_pos hb, getF_none ha, getF_none hb]; simp [ha, hb]
    · rw [if_pos ha, if_neg hb]; simp [ha, hb]
  · by_cases hb : allF b n = []
    · rw [if_neg ha, if_pos hb]; simp [ha, hb]
    · rw [if_neg ha, if_neg hb]
      simp only [List.cons_append, List.cons.injEq, true_and, markT_cancel, ha, hb, decide_false, Bool.not_false, beq_self_eq_true, Bool.true_and, beq_iff_eq]
theorem secondL_cancel {a b : List Fld} : ∀ {ns : List (List UInt8)} {r s : List UInt8}, secondL a ns ++ r = secondL b ns ++ s ↔ ns.all (sameN a b) = true ∧ r = s
  | [], r, s => by simp [secondL]
  | n :: ns, r, s => by
    have e : ∀ l : List Fld, secondL l (n :: ns) = markF l n ++ secondL l ns := fun l => rfl
    rw [e, e, List.append_assoc, List.append_assoc, markF_cancel, secondL_cancel, List.all_cons, Bool.and_eq_true, and_assoc]
theorem secondL_same (a b : List Fld) (ns : List (List UInt8)) : (secondL a ns == secondL b ns) = ns.all (sameN a b) := by
  rw [Bool.eq_iff_iff, beq_iff_eq]
  have := @secondL_cancel a b ns [] []
  simpa using this
theorem queryK_cancel {q : Bool} {a b : PlaceR} {r s : List UInt8} : queryK q a ++ r = queryK q b ++ s ↔ (q = false ∨ (a.has = b.has ∧ (a.has = true → a.query = b.query))) ∧ r = s := by
  unfold queryK
  cases q with
  | false => simp
  | true =>
    cases ha : a.has <;> cases hb : b.has <;> simp [markT_cancel]
/-- is all the same that a site asks for? -/
def sameK (q : Bool) (heads : List (List UInt8)) (a b : PlaceR) (x y : List Fld) : Bool :=
  (a.host == b.host && (a.path == b.path && (!q || (a.has == b.has && (!a.has || a.query == b.query))))) && heads.all (sameN x y)
theorem firstL_same (q : Bool) (heads : List (List UInt8)) (a b : PlaceR) (x y : List Fld) : (firstL q heads a x == firstL q heads b y) = sameK q heads a b x y := by
  rw [Bool.eq_iff_iff, beq_iff_eq]
  unfold firstL sameK
  have h := @secondL_cancel x y heads [] []
  simp only [List.append_nil] at h
  rw [markT_cancel, markT_cancel, queryK_cancel, h]
  cases q <;> cases ha : a.has <;> cases hb : b.has <;> simp [and_assoc]
/-- how each key of a place begins -/
theorem firstL_bare (p : PlaceR) : firstL false [] p [] = markT p.host ++ markT p.path := by simp [firstL, queryK, secondL]
theorem firstL_begins (q : Bool) (heads : List (List UInt8)) (p r : PlaceR) (l : List Fld) :
    (decide ((firstL false [] p []).length ≤ (firstL q heads r l).length) && (firstL q heads r l).take (firstL false [] p []).length == firstL false [] p []) = (p.host == r.host && p.path == r.path) := by
  rw [firstL_bare, Bool.eq_iff_iff]
  simp only [Bool.and_eq_true, decide_eq_true_eq, beq_iff_eq]
  constructor
  · rintro ⟨_, h⟩
    have h2 : firstL q heads r l = (markT p.host ++ markT p.path) ++ (firstL q heads r l).drop (markT p.host ++ markT p.path).length := by
      conv => lhs; rw [← List.take_append_drop (markT p.host ++ markT p.path).length (firstL q heads r l), h]
    unfold firstL at h2
    rw [List.append_assoc, markT_cancel, markT_cancel] at h2
    exact ⟨h2.1.symm, h2.2.1.symm⟩
  · rintro ⟨h1, h2⟩
    have e : firstL q heads r l = (markT p.host ++ markT p.path) ++ (queryK q r ++ secondL l heads) := by unfold firstL; rw [h1, h2]; simp
    rw [e]
    exact ⟨by simp, by rw [List.take_left]⟩
theorem markT_len {x : List UInt8} {f : Nat} (h : x.length < 10 ^ (f + 1)) : (markT x).length ≤ x.length + f + 2 := by
  have := decL_len f _ h
  simp [markT]; omega
/-- fields that none of the names has, behind -/
theorem markF_more {l r : List Fld} {n : List UInt8} (h : allF r n = []) : markF (l ++ r) n = markF l n := by
  unfold markF getF; rw [allF_append, h, List.append_nil]
theorem secondL_more {l r : List Fld} {ns : List (List UInt8)} (h : ∀ n ∈ ns, allF r n = []) : secondL (l ++ r) ns = secondL l ns := by
  unfold secondL
  induction ns with
  | nil => rfl
  | cons n ns ih =>
    rw [List.flatMap_cons, List.flatMap_cons, markF_more (h n (List.mem_cons_self ..)), ih (fun m hm => h m (List.mem_cons_of_mem _ hm))]
/-- fields without some names -/
def outN (l : List Fld) (ns : List (List UInt8)) : List Fld := l.filter fun f => !(ns.any fun n => isF n f)
theorem outN_none (l : List Fld) (ns : List (List UInt8)) : ∀ n ∈ ns, allF (outN l ns) n = [] := by
  intro n hn
  unfold allF outN
  rw [List.filter_filter, List.map_eq_nil_iff, List.filter_eq_nil_iff]
  intro f _ hf
  simp only [Bool.and_eq_true, Bool.not_eq_true', List.any_eq_false] at hf
  exact hf.2 n hn hf.1
/-- great letters -/
def upC (c : UInt8) : UInt8 := if isLow c then c - 32 else c
def upL (l : List UInt8) : List UInt8 := l.map upC
theorem lowC_up (c : UInt8) : lowC (upC c) = lowC c := by
  have h := byte_all (p := fun c => lowC (upC c) == lowC c) (by decide +kernel) c
  simpa using h
theorem lowerL_up (l : List UInt8) : lowerL (upL l) = lowerL l := by simp [lowerL, upL, Function.comp_def, lowC_up]
theorem markF_up (l : List Fld) (n : List UInt8) : markF l (upL n) = markF l n := by
  have e : isF (upL n) = isF n := funext fun f => isF_same (lowerL_up n) f
  unfold markF getF allF; rw [e]
theorem secondL_up (l : List Fld) (ns : List (List UInt8)) : secondL l (ns.map upL) = secondL l ns := by
  unfold secondL
  rw [List.flatMap_map]
  congr 1; funext n; exact markF_up l n
/-- the names that vary, of elements -/
def varyE (es : List (List UInt8)) : List (List UInt8) := ((es.filter fun e => !(e == [42])).map lowerL).foldl riseL []
def starE (es : List (List UInt8)) : Bool := es.any (· == [42])
def varyN : List UInt8 := [118, 97, 114, 121]
theorem varyE_mem (es : List (List UInt8)) (x : List UInt8) : x ∈ varyE es ↔ ∃ e ∈ es, e ≠ [42] ∧ lowerL e = x := by
  unfold varyE
  rw [foldPut_mem]
  simp [and_assoc]
theorem varyE_sorted (es : List (List UInt8)) : (varyE es).Pairwise (· < ·) := foldPut_sorted _ _ List.Pairwise.nil
theorem varyE_ext {es fs : List (List UInt8)} (h : ∀ x, x ∈ es ↔ x ∈ fs) : varyE es = varyE fs ∧ starE es = starE fs := by
  constructor
  · exact sorted_ext (varyE_sorted _) (varyE_sorted _) fun x => by
      rw [varyE_mem, varyE_mem]
      exact ⟨fun ⟨e, h1, h2⟩ => ⟨e, (h e).1 h1, h2⟩, fun ⟨e, h1, h2⟩ => ⟨e, (h e).2 h1, h2⟩⟩
  · rw [Bool.eq_iff_iff]
    simp only [starE, List.any_eq_true, beq_iff_eq]
    exact ⟨fun ⟨e, h1, h2⟩ => ⟨e, (h e).1 h1, h2⟩, fun ⟨e, h1, h2⟩ => ⟨e, (h e).2 h1, h2⟩⟩
theorem varyE_snoc (es : List (List UInt8)) (e : List UInt8) : varyE (es ++ [e]) = if e == [42] then varyE es else riseL (varyE es) (lowerL e) := by
  unfold varyE
  by_cases h : e == [42]
  · simp [h]
  · simp [h]
theorem starE_snoc (es : List (List UInt8)) (e : List UInt8) : starE (es ++ [e]) = (starE es || e == [42]) := by simp [starE]
theorem varyE_len (es : List (List UInt8)) : (varyE es).length ≤ es.length := by
  have h0 : ∀ (l : List (List UInt8)) (h : List UInt8), (riseL l h).length ≤ l.length + 1 := by
    intro l h
    induction l with
    | nil => simp [riseL]
    | cons x l ih =>
      unfold riseL
      split
      · simp; omega
      · split <;> simp
  have h1 : ∀ hs l : List (List UInt8), (hs.foldl riseL l).length ≤ l.length + hs.length := by
    intro hs
    induction hs with
    | nil => intro l; simp
    | cons h hs ih => intro l; rw [List.foldl_cons]; have := ih (riseL l h); have := h0 l h; simp only [List.length_cons]; omega
  have h2 := h1 ((es.filter fun e => !(e == [42])).map lowerL) []
  have h3 := List.length_filter_le (fun e : List UInt8 => !(e == [42])) es
  unfold varyE
  simp only [List.length_map, List.length_nil] at h2
  omega
theorem trim_blank_end (l : List UInt8) : trimL (l ++ [32]) = trimL l := by
  have hp : [32, 9].contains (32 : UInt8) = true := by decide
  unfold trimL Lib.trimS Lib.trimLeftS Lib.trimRightS
  rw [List.reverse_append, List.reverse_cons, List.reverse_nil, List.nil_append, List.singleton_append, List.dropWhile_cons, if_pos hp]
theorem listL_blank_end (b : List UInt8) (h : ∀ c ∈ b, c ≠ 44 ∧ c ≠ 34) : listL (b ++ [32]) = listL b := by
  have hb : ∀ c ∈ b ++ [32], c ≠ 44 ∧ c ≠ (34 : UInt8) := fun c hc => by
    rcases List.mem_append.1 hc with hc | hc
    · exact h c hc
    · rw [List.mem_singleton] at hc; subst hc; decide
  have e : trimL (b ++ [32]) = trimL b := trim_blank_end b
  rw [listL_one _ hb, listL_one _ h, e]
/-- one field that holds all: each between commas -/
theorem listL_commas : ∀ (bs : List (List UInt8)), (∀ b ∈ bs, ∀ c ∈ b, c ≠ 44 ∧ c ≠ 34) → listL (bs.flatMap fun b => 44 :: (b ++ [32, 44])) = bs.flatMap listL
  | [], _ => rfl
  | b :: bs, h => by
    have hb := h b (List.mem_cons_self ..)
    have q1 : (34 : UInt8) ∉ ([] : List UInt8) := by simp
    have q2 : (34 : UInt8) ∉ b ++ [32] := by
      intro hc
      rcases List.mem_append.1 hc with hc | hc
      · exact (hb _ hc).2 rfl
      · simp at hc
    rw [List.flatMap_cons, List.flatMap_cons]
    have e : (44 :: (b ++ [32, 44])) ++ (bs.flatMap fun b => 44 :: (b ++ [32, 44])) = [] ++ 44 :: ((b ++ [32]) ++ 44 :: (bs.flatMap fun b => 44 :: (b ++ [32, 44]))) := by simp
    rw [e, listL_two _ 0 [] (Nat.le_refl _) q1, listL_two _ _ _ (Nat.le_refl _) q2, listL_nil, List.nil_append, listL_blank_end b hb, listL_commas bs (fun x hx => h x (List.mem_cons_of_mem _ hx))]
/-- a row turned by some places -/
def turnL (l : List (List UInt8)) (t : Nat) : List (List UInt8) := (List.range l.length).map fun i => l.getD ((i + t) % l.length) []
theorem getD_at (l : List (List UInt8)) {k : Nat} (h : k < l.length) : l.getD k [] = l[k] := by simp [h]
theorem turnL_mem (l : List (List UInt8)) (t : Nat) (ht : t < l.length) (x : List UInt8) : x ∈ turnL l t ↔ x ∈ l := by
  unfold turnL
  simp only [List.mem_map, List.mem_range]
  constructor
  · rintro ⟨i, _, rfl⟩
    have hk : (i + t) % l.length < l.length := Nat.mod_lt _ (by omega)
    rw [getD_at _ hk]
    exact List.getElem_mem hk
  · intro hx
    obtain ⟨j, hj, rfl⟩ := List.getElem_of_mem hx
    refine ⟨(j + (l.length - t)) % l.length, Nat.mod_lt _ (by omega), ?_⟩
    have e : ((j + (l.length - t)) % l.length + t) % l.length = j := by
      rw [Nat.mod_add_mod, show j + (l.length - t) + t = j + l.length by omega, Nat.add_mod_right, Nat.mod_eq_of_lt hj]
    rw [e, getD_at _ hj]
theorem turnL_take (l : List (List UInt8)) (t k : Nat) (hk : k < l.length) : ((turnL l t).take k) ++ [l.getD ((k + t) % l.length) []] = (turnL l t).take (k + 1) := by
  have hl : k < (turnL l t).length := by simp [turnL, hk]
  have e : (turnL l t)[k]'hl = l.getD ((k + t) % l.length) [] := by simp [turnL]
  rw [← e]
  exact (List.take_succ_eq_append_getElem hl).symm
/-- all in one field -/
def oneV (bs : List (List UInt8)) : List UInt8 := bs.flatMap fun b => 44 :: (b ++ [32, 44])
/-- each in two fields, another one between them -/
def apartV (l : List (List UInt8)) : List Fld := l.flatMap fun a => [([86, 65, 82, 89], a), ([120], [121]), ([118, 97, 114, 121], a)]
theorem oneV_snoc (bs : List (List UInt8)) (b : List UInt8) : oneV (bs ++ [b]) = oneV bs ++ 44 :: (b ++ [32, 44]) := by simp [oneV]
theorem apartV_snoc (l : List (List UInt8)) (a : List UInt8) : apartV (l ++ [a]) = apartV l ++ [([86, 65, 82, 89], a), ([120], [121]), ([118, 97, 114, 121], a)] := by simp [apartV]
theorem apartV_len (l : List (List UInt8)) : (apartV l).length = 3 * l.length := by
  induction l with
  | nil => rfl
  | cons a l ih => have e : apartV (a :: l) = [([86, 65, 82, 89], a), ([120], [121]), ([118, 97, 114, 121], a)] ++ apartV l := rfl; rw [e, List.length_append, ih]; simp; omega
theorem isF_of {n a v : List UInt8} {b : Bool} (h : (lowerL a == lowerL n) = b) : isF n (a, v) = b := h
theorem allF_apartV (l : List (List UInt8)) : allF (apartV l) varyN = l.flatMap fun a => [a, a] := by
  induction l with
  | nil => rfl
  | cons a l ih =>
    have e : apartV (a :: l) = [([86, 65, 82, 89], a), ([120], [121]), ([118, 97, 114, 121], a)] ++ apartV l := rfl
    have h1 : isF varyN (([86, 65, 82, 89] : List UInt8), a) = true := isF_of (by decide)
    have h2 : isF varyN (([120] : List UInt8), ([121] : List UInt8)) = false := isF_of (by decide)
    have h3 : isF varyN (([118, 97, 114, 121] : List UInt8), a) = true := isF_of (by decide)
    rw [e, allF_append, ih]
    simp [allF, h1, h2, h3]
/-- the names that vary are the same -/
theorem vary_same (l : List (List UInt8)) (t : Nat) (ht : t < l.length) (h : ∀ b ∈ l, ∀ c ∈ b, c ≠ 44 ∧ c ≠ 34) :
    varyE (elementsF [([86, 97, 114, 121], oneV (turnL l t))] varyN) = varyE (elementsF (apartV l) varyN) ∧
    starE (elementsF [([86, 97, 114, 121], oneV (turnL l t))] varyN) = starE (elementsF (apartV l) varyN) := by
  have h1 : allF [(([86, 97, 114, 121] : List UInt8), oneV (turnL l t))] varyN = [oneV (turnL l t)] := by
    have g : isF varyN (([86, 97, 114, 121] : List UInt8), oneV (turnL l t)) = true := isF_of (by decide)
    simp [allF, g]
  have h2 : elementsF [([86, 97, 114, 121], oneV (turnL l t))] varyN = (turnL l t).flatMap listL := by
    rw [elementsF_of, h1]
    exact listL_commas _ fun b hb => h b ((turnL_mem l t ht b).1 hb)
  have h3 : elementsF (apartV l) varyN = (l.flatMap fun a => [a, a]).flatMap listL := by
    rw [elementsF_of, allF_apartV]
    refine listL_joinC _ fun a ha hc => ?_
    rw [List.mem_flatMap] at ha
    obtain ⟨b, hb, hab⟩ := ha
    simp only [List.mem_cons, List.not_mem_nil, or_false, or_self] at hab
    subst hab
    exact (h _ hb _ hc).2 rfl
  rw [h2, h3]
  refine varyE_ext fun x => ?_
  simp only [List.mem_flatMap, turnL_mem l t ht]
  constructor
  · rintro ⟨a, ha, hx⟩; exact ⟨a, ⟨a, ha, by simp⟩, hx⟩
  · rintro ⟨a, ⟨b, hb, hab⟩, hx⟩
    simp only [List.mem_cons, List.not_mem_nil, or_false, or_self] at hab
    subst hab
    exact ⟨_, hb, hx⟩
theorem vary_none : varyE (elementsF [([86, 97, 114, 121], [])] varyN) = varyE (elementsF [] varyN) ∧ starE (elementsF [([86, 97, 114, 121], [])] varyN) = starE (elementsF [] varyN) := by decide
end Go.Pantry
/-
  Fields that keys are made of: how much they hold.
-/
namespace Go.Proofs.YtoolboafbkikjaaDoor
open Go.RowKit Go.Pantry

/-- fields that keys are made of -/
structure SmallF (l : List Fld) : Prop where
  len : l.length ≤ 60
  name : ∀ f ∈ l, f.1.length ≤ 100
  val : ∀ f ∈ l, f.2.length ≤ 300
theorem SmallF.get {l : List Fld} (h : SmallF l) (n : List UInt8) : (getF l n).length ≤ 18120 := by
  have h1 := joinC_len 300 (allF l n) (fun x hx => by obtain ⟨f, hf, rfl⟩ := allF_mem hx; exact h.val f hf)
  have h2 := allF_len l n
  have h3 := h.len
  unfold getF
  have h4 : (300 + 2) * (allF l n).length ≤ (300 + 2) * 60 := Nat.mul_le_mul_left _ (by omega)
  omega
end Go.Proofs.YtoolboafbkikjaaDoor
/-
  Fresh: what is kept; lives, ages, uses. No program is imported.
-/
namespace Go.Pantry
open Go.RowKit

def nDate : List UInt8 := [100, 97, 116, 101]
def nExpires : List UInt8 := [101, 120, 112, 105, 114, 101, 115]
def nLast : List UInt8 := [108, 97, 115, 116, 45, 109, 111, 100, 105, 102, 105, 101, 100]
def nAge : List UInt8 := [97, 103, 101]
def nAuth : List UInt8 := [97, 117, 116, 104, 111, 114, 105, 122, 97, 116, 105, 111, 110]
def nGet : List UInt8 := [71, 69, 84]
abbrev topT : Int := 253402300799
def isT (t : Int) : Bool := decide (0 ≤ t) && decide (t ≤ 253402300799)
/-- the time of a field -/
noncomputable def datedF (l : List Fld) (n : List UInt8) : Option Int := readDL (getF l n)
/-- a response's date -/
noncomputable def dayF (l : List Fld) (at_ : Int) : Int := (datedF l nDate).getD at_
/-- what a response says of its life -/
noncomputable def toldF (l : List Fld) (at_ : Int) : Int :=
  if 0 ≤ intO (ctlF l).shared then intO (ctlF l).shared
  else if 0 ≤ intO (ctlF l).maxAge then intO (ctlF l).maxAge
  else if allF l nExpires = [] then
    (match datedF l nLast with
      | some t => if dayF l at_ < t then 0 else (dayF l at_ - t) / 10
      | none => 0)
  else
    (match datedF l nExpires with
      | some t => if t < dayF l at_ then 0 else t - dayF l at_
      | none => 0)
def clampI (lo hi n : Int) : Int := if hi < (if n < lo then lo else n) then hi else (if n < lo then lo else n)
noncomputable def lifeF (lo hi : Int) (l : List Fld) (at_ : Int) : Int := if isT at_ then clampI lo hi (toldF l at_) else 0
def numF (l : List Fld) (n : List UInt8) : Int := (((numberL (getF l n)).getD 0 : Nat) : Int)
noncomputable def ageR (l : List Fld) (asked at_ now : Int) : Int := max (max 0 (at_ - dayF l at_)) (numF l nAge + max 0 (at_ - asked)) + max 0 (now - at_)
noncomputable def ageF (l : List Fld) (asked at_ now : Int) : Int := if isT asked && (isT at_ && isT now) then ageR l asked at_ now else 0
/-- may it be used as it is? -/
def mayI (nc must : Bool) (qma qmf qms psh age life : Int) : Bool :=
  if nc then false
  else if 0 ≤ qma ∧ qma < age then false
  else if age < life ∧ (qmf < 0 ∨ age + qmf ≤ life) then true
  else if qms < 0 ∨ 0 ≤ qmf ∨ must = true ∨ 0 ≤ psh then false
  else decide (age ≤ life + qms)
def mayF (q p : Ctl) (age life : Int) : Bool := mayI (q.noCache || p.noCache) p.must (intO q.maxAge) (intO q.minFresh) (intO q.maxStale) (intO p.shared) age life
noncomputable def useF (lo hi : Int) (req came : List Fld) (asked at_ now : Int) : Int :=
  if isT asked && (isT at_ && isT now) && mayF (ctlF req) (ctlF came) (ageF came asked at_ now) (lifeF lo hi came at_) then 0
  else if (ctlF req).only then 2 else 1
def usualS (s : Int) : Bool := [200, 203, 204, 300, 301, 404, 410].contains s
def otherS (s : Int) : Bool := decide (200 ≤ s) && (decide (s ≤ 599) && (!(s == 206) && !(s == 304)))
def timedF (l : List Fld) : Bool := decide (0 ≤ intO (ctlF l).maxAge) || (decide (0 ≤ intO (ctlF l).shared) || !(allF l nExpires).isEmpty)
def ownedF (asked came : List Fld) : Bool := (allF asked nAuth).isEmpty || ((ctlF came).pub || ((ctlF came).must || decide (0 ≤ intO (ctlF came).shared)))
def keptF (keep : Bool) (method : List UInt8) (asked : List Fld) (status : Int) (came : List Fld) : Bool :=
  keep && ((method == nGet) && (!(ctlF asked).noStore && (!(ctlF came).noStore && (!(ctlF came).priv && (ownedF asked came && (!(starE (elementsF came varyN)) && (usualS status || (otherS status && timedF came))))))))

/-! bounds -/
theorem intO_ge (o : Option Nat) : -1 ≤ intO o := by cases o <;> simp [intO] <;> omega
theorem readDL_bd {l : List UInt8} {t : Int} (h : readDL l = some t) : 0 ≤ t ∧ t ≤ 253402300799 := ⟨(readDL_some h).1, (readDL_some h).2.1⟩
theorem dayF_bd (l : List Fld) {at_ : Int} (h : isT at_ = true) : 0 ≤ dayF l at_ ∧ dayF l at_ ≤ 253402300799 := by
  unfold isT at h
  simp only [Bool.and_eq_true, decide_eq_true_eq] at h
  unfold dayF datedF
  cases e : readDL (getF l nDate) with
  | none => exact h
  | some t => exact readDL_bd e
theorem isT_of {t : Int} (h0 : 0 ≤ t) (h1 : t ≤ 253402300799) : isT t = true := by simp [isT, h0, h1]
theorem isT_bd {t : Int} (h : isT t = true) : 0 ≤ t ∧ t ≤ 253402300799 := by simpa [isT] using h
theorem numberL_le (l : List UInt8) : (numberL l).getD 0 ≤ 2147483648 := by
  unfold numberL
  split
  · exact Nat.min_le_right _ _
  · simp
theorem numF_bd (l : List Fld) (n : List UInt8) : 0 ≤ numF l n ∧ numF l n ≤ 2147483648 := by
  have := numberL_le (getF l n)
  unfold numF; omega

/-! what the statements ask of ages and uses -/
theorem ageR_more (l : List Fld) (asked at_ now more : Int) (h : at_ ≤ now) (hm : 0 ≤ more) : ageR l asked at_ (now + more) - ageR l asked at_ now = more := by
  unfold ageR; omega
theorem ageR_nonneg (l : List Fld) (asked at_ now : Int) : 0 ≤ ageR l asked at_ now := by unfold ageR; omega
theorem ageF_nonneg (l : List Fld) (asked at_ now : Int) : 0 ≤ ageF l asked at_ now := by
  unfold ageF; split
  · exact ageR_nonneg ..
  · exact Int.le_refl _
theorem ageF_more (l : List Fld) {asked at_ now more : Int} (h0 : 0 ≤ asked) (h1 : asked ≤ 68719476736) (h2 : asked ≤ at_) (h3 : at_ ≤ 68719476736) (h4 : at_ ≤ now) (h5 : now ≤ 68719476736) (h6 : 0 ≤ more) (h7 : more ≤ 68719476736) :
    ageF l asked at_ (now + more) - ageF l asked at_ now = more := by
  unfold ageF
  rw [isT_of h0 (by omega), isT_of (by omega) (by omega : at_ ≤ 253402300799), isT_of (by omega) (by omega : now ≤ 253402300799), isT_of (by omega) (by omega : now + more ≤ 253402300799)]
  exact ageR_more l asked at_ now more h4 h6
theorem mayI_less {nc must : Bool} {qma qmf qms psh age life more : Int} (hm : 0 ≤ more) (h : mayI nc must qma qmf qms psh (age + more) life = true) : mayI nc must qma qmf qms psh age life = true := by
  unfold mayI at h ⊢
  cases nc
  · simp only [Bool.false_eq_true, if_false] at h ⊢
    by_cases h1 : 0 ≤ qma ∧ qma < age
    · rw [if_pos (by omega)] at h; cases h
    · rw [if_neg h1]
      by_cases h1' : 0 ≤ qma ∧ qma < age + more
      · rw [if_pos h1'] at h; cases h
      · rw [if_neg h1'] at h
        by_cases h2 : age < life ∧ (qmf < 0 ∨ age + qmf ≤ life)
        · rw [if_pos h2]
        · rw [if_neg h2]
          by_cases h2' : age + more < life ∧ (qmf < 0 ∨ age + more + qmf ≤ life)
          · exact absurd ⟨by omega, h2'.2.imp id (fun h => by omega)⟩ h2
          · rw [if_neg h2'] at h
            split at h
            · cases h
            · rename_i h3
              rw [if_neg h3]
              have := of_decide_eq_true h
              exact decide_eq_true (by omega)
  · simp at h
/-- what may not be used any more may not be used later -/
theorem useF_older (lo hi : Int) (req came : List Fld) {asked at_ now more : Int} (h0 : 0 ≤ asked) (h1 : asked ≤ 68719476736) (h2 : asked ≤ at_) (h3 : at_ ≤ 68719476736) (h4 : at_ ≤ now) (h5 : now ≤ 68719476736) (h6 : 0 ≤ more) (h7 : more ≤ 68719476736) :
    ((useF lo hi req came asked at_ now == 0) || !(useF lo hi req came asked at_ (now + more) == 0)) = true := by
  have ha := ageF_more came h0 h1 h2 h3 h4 h5 h6 h7
  have e : ageF came asked at_ (now + more) = ageF came asked at_ now + more := by omega
  unfold useF
  rw [isT_of h0 (by omega), isT_of (by omega) (by omega : at_ ≤ 253402300799), isT_of (by omega) (by omega : now ≤ 253402300799), isT_of (by omega) (by omega : now + more ≤ 253402300799), e]
  simp only [Bool.true_and]
  by_cases hm : mayF (ctlF req) (ctlF came) (ageF came asked at_ now + more) (lifeF lo hi came at_) = true
  · have hm2 : mayF (ctlF req) (ctlF came) (ageF came asked at_ now) (lifeF lo hi came at_) = true := mayI_less h6 hm
    rw [if_pos hm2]; rfl
  · rw [if_neg hm]
    split <;> split <;> simp
theorem clampI_bd {lo hi n : Int} (h : lo ≤ hi) : lo ≤ clampI lo hi n ∧ clampI lo hi n ≤ hi := by
  unfold clampI; split <;> split <;> omega
theorem lifeF_bd {lo hi at_ : Int} (l : List Fld) (h : lo ≤ hi) (ht : isT at_ = true) : lo ≤ lifeF lo hi l at_ ∧ lifeF lo hi l at_ ≤ hi := by
  unfold lifeF; rw [if_pos ht]; exact clampI_bd h
theorem lifeF_same {n at_ : Int} (l : List Fld) (ht : isT at_ = true) : lifeF n n l at_ = n := by
  have := lifeF_bd (lo := n) (hi := n) l (Int.le_refl _) ht
  omega
/-- a request that says nothing but what changes only that none may be asked -/
theorem useF_range (lo hi : Int) (req came : List Fld) (asked at_ now : Int) : useF lo hi req came asked at_ now = 0 ∨ useF lo hi req came asked at_ now = (if (ctlF req).only then 2 else 1) := by
  unfold useF
  split
  · exact .inl rfl
  · exact .inr rfl
end Go.Pantry
/-
  Fresh: what the statements ask of single directives. No program is imported.
-/
namespace Go.Pantry
open Go.RowKit

/-! a request that says one thing -/
def sCC : List UInt8 := [67, 97, 99, 104, 101, 45, 67, 111, 110, 116, 114, 111, 108]
theorem ctlF_nil : ctlF [] = ctl0 := ctlF_nothing [] rfl rfl
theorem ctlF_only : ctlF [(sCC, nOnly)] = { ctl0 with only := true } := by decide +kernel
theorem ctlF_noCache : (ctlF [(sCC, nNoCache)]).noCache = true ∧ (ctlF [(sCC, nNoCache)]).only = false := by decide +kernel
theorem ctlF_pragma : (ctlF [(nPragma, nNoCache)]).noCache = true ∧ (ctlF [(nPragma, nNoCache)]).only = false := by decide +kernel
theorem ctlF_noStore : (ctlF [(sCC, nNoStore)]).noStore = true := by decide +kernel
/-- one that says no-store, ahead of others -/
theorem ctlF_noStore_more (l : List Fld) : (ctlF ((sCC, nNoStore) :: l)).noStore = true := by
  have h1 : allF ((sCC, nNoStore) :: l) nCC = nNoStore :: allF l nCC := by
    have : isF nCC (sCC, nNoStore) = true := by decide
    simp [allF, this]
  rw [ctlF_some _ (by rw [h1]; exact List.cons_ne_nil _ _)]
  show saidE nNoStore (elementsF ((sCC, nNoStore) :: l) nCC) = true
  rw [elementsF_of, h1]
  cases hr : allF l nCC with
  | nil => decide +kernel
  | cons b r =>
    show saidE nNoStore (listL (nNoStore ++ 44 :: 32 :: joinC (b :: r))) = true
    rw [listL_two _ nNoStore.length nNoStore (Nat.le_refl _) (by decide), saidE_append]
    rw [show saidE nNoStore (listL nNoStore) = true by decide +kernel, Bool.true_or]
theorem mayF_only (p : Ctl) (age life : Int) : mayF { ctl0 with only := true } p age life = mayF ctl0 p age life := rfl
theorem mayF_noCache {q : Ctl} (h : q.noCache = true) (p : Ctl) (age life : Int) : mayF q p age life = false := by
  unfold mayF mayI; rw [h, Bool.true_or, if_pos rfl]
theorem use_plain (lo hi : Int) (came : List Fld) (asked at_ now : Int) : useF lo hi [] came asked at_ now = 0 ∨ useF lo hi [] came asked at_ now = 1 := by
  have h := useF_range lo hi [] came asked at_ now
  rw [ctlF_nil] at h
  exact h
theorem use_only (lo hi : Int) (came : List Fld) (asked at_ now : Int) : useF lo hi [(sCC, nOnly)] came asked at_ now = if useF lo hi [] came asked at_ now = 0 then 0 else 2 := by
  unfold useF
  rw [ctlF_nil, ctlF_only, mayF_only]
  cases (isT asked && (isT at_ && isT now) && mayF ctl0 (ctlF came) (ageF came asked at_ now) (lifeF lo hi came at_)) <;> rfl
theorem use_noCache (lo hi : Int) {req : List Fld} (h : (ctlF req).noCache = true ∧ (ctlF req).only = false) (came : List Fld) (asked at_ now : Int) : useF lo hi req came asked at_ now = 1 := by
  unfold useF
  rw [mayF_noCache h.1, Bool.and_false, if_neg (by simp), h.2]
  rfl
theorem kept_noStore_req (keep : Bool) (status : Int) (came : List Fld) : keptF keep nGet [(sCC, nNoStore)] status came = false := by
  unfold keptF
  rw [ctlF_noStore]
  simp
theorem kept_noStore_resp (keep : Bool) (status : Int) (came : List Fld) : keptF keep nGet [] status ((sCC, nNoStore) :: came) = false := by
  unfold keptF
  rw [ctlF_noStore_more]
  simp
theorem kept_post (keep : Bool) (status : Int) (came : List Fld) : keptF keep [80, 79, 83, 84] [] status came = false := by
  unfold keptF
  rw [show (([80, 79, 83, 84] : List UInt8) == nGet) = false by decide]
  simp

/-! seconds in digits -/
theorem decL_mem {n : Nat} {c : UInt8} (h : c ∈ decL n) : isDig c = true := List.all_eq_true.1 (decL_dig n) c h
theorem decL_ne (n : Nat) : decL n ≠ [] := by
  have h : n < 10 ^ (n + 1) := Nat.lt_of_lt_of_le (Nat.lt_pow_self (by decide)) (Nat.pow_le_pow_right (by decide) (Nat.le_succ n))
  rw [decL_digF n n h]; exact digF_ne n n
theorem secE_dec (n other : Nat) : secE (decL n) other = min n farN := by
  have ht : tokenL (decL n) = true := by
    unfold tokenL
    rw [Bool.and_eq_true]
    refine ⟨List.all_eq_true.2 fun c hc => (digit_plain c (decL_mem hc)).2.2.2.1, ?_⟩
    cases h : decL n with
    | nil => exact absurd h (decL_ne n)
    | cons _ _ => rfl
  unfold secE unquoteL
  rw [if_pos ht]
  show (numberL (decL n)).getD other = _
  unfold numberL
  rw [decL_dig n, decL_val n, if_pos]
  · rfl
  · cases h : decL n with
    | nil => exact absurd h (decL_ne n)
    | cons _ _ => rfl
theorem plain_dec {nm : List UInt8} {n : Nat} {d : UInt8} (hd : isDig d = false) (h61 : d ≠ 61) (h : d ∉ nm) : d ∉ nm ++ 61 :: decL n := by
  intro hm
  rcases List.mem_append.1 hm with hm | hm
  · exact h hm
  · rcases List.mem_cons.1 hm with hm | hm
    · exact h61 hm
    · rw [decL_mem hm] at hd; cases hd
theorem listL_dec (nm : List UInt8) (n : Nat) (c : UInt8) (hc : nm.head? = some c) (hcb : isBl c = false) (h44 : (44 : UInt8) ∉ nm) : listL (nm ++ 61 :: decL n) = [nm ++ 61 :: decL n] := by
  have t : trimL (nm ++ 61 :: decL n) = nm ++ 61 :: decL n := trim_whole _ (fun d hd => by
    cases nm with
    | nil => simp at hc
    | cons x nm => simp at hc hd; rw [← hd, hc]; exact hcb) (fun d hd => by
    have hd2 : (nm ++ 61 :: decL n).getLast? = (decL n).getLast? := by
      have e2 : nm ++ 61 :: decL n = (nm ++ [61]) ++ decL n := by simp
      rw [e2, List.getLast?_append]
      cases h : (decL n).getLast? with
      | none => exact absurd (List.getLast?_eq_none_iff.1 h) (decL_ne n)
      | some x => rfl
    rw [hd2] at hd
    exact (digit_plain d (decL_mem (List.mem_of_getLast? hd))).2.2.2.2)
  rw [listL_single _ (plain_dec (by decide) (by decide) h44), t, if_neg (by cases nm <;> simp)]
theorem dirE_dec (name nm : List UInt8) (other bare n : Nat) (h61 : (61 : UInt8) ∉ nm) : dirE name other bare (nm ++ 61 :: decL n) = if lowerL nm == name then some (min n farN) else none := by
  obtain ⟨h1, h2, h3⟩ := nameE_at (b := decL n) h61
  unfold dirE
  rw [h1, h2, h3, if_pos rfl, secE_dec]

/-! what is said of a life, in its order -/
def sExpires : List UInt8 := [69, 120, 112, 105, 114, 101, 115]
theorem clampI_in {hi n : Int} (h0 : 0 ≤ n) (h1 : n ≤ hi) : clampI 0 hi n = n := by
  unfold clampI; split <;> split <;> omega
abbrev fS (k : Nat) : Fld := (sCC, nShared ++ 61 :: decL k)
abbrev fM (k : Nat) : Fld := (nCC, nMaxAge ++ 61 :: decL k)
abbrev fE (x : List UInt8) : Fld := (sExpires, x)
theorem isF_CC1 (v : List UInt8) : isF nCC (sCC, v) = true := by show (lowerL sCC == lowerL nCC) = true; decide
theorem isF_CC2 (v : List UInt8) : isF nCC (nCC, v) = true := by show (lowerL nCC == lowerL nCC) = true; decide
theorem isF_CC3 (v : List UInt8) : isF nCC (sExpires, v) = false := by show (lowerL sExpires == lowerL nCC) = false; decide
theorem shared_said (s m : Nat) (x : List UInt8) : (ctlF [fS s, fM m, fE x]).shared = some (min s farN) := by
  have h1 : allF [fS s, fM m, fE x] nCC = [nShared ++ 61 :: decL s, nMaxAge ++ 61 :: decL m] := by
    simp [allF, isF_CC1, isF_CC2, isF_CC3]
  rw [ctlF_some _ (by rw [h1]; exact List.cons_ne_nil _ _), elementsF_of, h1, listL_joinC _ (by
    intro a ha
    simp only [List.mem_cons, List.not_mem_nil, or_false] at ha
    rcases ha with rfl | rfl
    · exact plain_dec (by decide) (by decide) (by decide)
    · exact plain_dec (by decide) (by decide) (by decide)), List.flatMap_cons, List.flatMap_cons, List.flatMap_nil, listL_dec nShared s 115 rfl (by decide) (by decide), listL_dec nMaxAge m 109 rfl (by decide) (by decide)]
  show toldE nShared 0 0 false [nShared ++ 61 :: decL s, nMaxAge ++ 61 :: decL m] = _
  unfold toldE
  rw [List.foldl_cons, List.foldl_cons, List.foldl_nil, dirE_dec _ _ _ _ _ (by decide), dirE_dec _ _ _ _ _ (by decide), show (lowerL nShared == nShared) = true by decide, show (lowerL nMaxAge == nShared) = false by decide]
  rfl
theorem most_said (m : Nat) (x : List UInt8) : (ctlF [fE x, fM m]).shared = none ∧ (ctlF [fE x, fM m]).maxAge = some (min m farN) := by
  have h1 : allF [fE x, fM m] nCC = [nMaxAge ++ 61 :: decL m] := by
    simp [allF, isF_CC2, isF_CC3]
  rw [ctlF_some _ (by rw [h1]; exact List.cons_ne_nil _ _), elementsF_of, h1, show joinC [nMaxAge ++ 61 :: decL m] = nMaxAge ++ 61 :: decL m from rfl, listL_dec nMaxAge m 109 rfl (by decide) (by decide)]
  constructor
  · show toldE nShared 0 0 false [nMaxAge ++ 61 :: decL m] = _
    unfold toldE
    rw [List.foldl_cons, List.foldl_nil, dirE_dec _ _ _ _ _ (by decide), show (lowerL nMaxAge == nShared) = false by decide]
    rfl
  · show toldE nMaxAge 0 0 false [nMaxAge ++ 61 :: decL m] = _
    unfold toldE
    rw [List.foldl_cons, List.foldl_nil, dirE_dec _ _ _ _ _ (by decide), show (lowerL nMaxAge == nMaxAge) = true by decide]
    rfl
theorem life_shared {s m : Nat} {x : List UInt8} {at_ : Int} (hs : s ≤ 2147483648) (ht : isT at_ = true) : lifeF 0 2147483648 [fS s, fM m, fE x] at_ = (s : Int) := by
  have e : intO (ctlF [fS s, fM m, fE x]).shared = (s : Int) := by rw [shared_said]; show ((min s farN : Nat) : Int) = _; rw [Nat.min_eq_left hs]
  unfold lifeF toldF
  rw [if_pos ht, e, if_pos (by omega), clampI_in (by omega) (by omega)]
theorem life_most {m : Nat} {x : List UInt8} {at_ : Int} (hm : m ≤ 2147483648) (ht : isT at_ = true) : lifeF 0 2147483648 [fE x, fM m] at_ = (m : Int) := by
  have e1 : intO (ctlF [fE x, fM m]).shared = -1 := by rw [(most_said m x).1]; rfl
  have e : intO (ctlF [fE x, fM m]).maxAge = (m : Int) := by rw [(most_said m x).2]; show ((min m farN : Nat) : Int) = _; rw [Nat.min_eq_left hm]
  unfold lifeF toldF
  rw [if_pos ht, e1, if_neg (by omega), e, if_pos (by omega), clampI_in (by omega) (by omega)]
theorem dated_none (l : List Fld) (n : List UInt8) (h : allF l n = []) : datedF l n = none := by
  unfold datedF getF
  rw [h]
  refine readDL_none fun t h0 h1 e => ?_
  have := showL_len t h0 h1
  rw [e] at this
  simp [joinC] at this
theorem life_expires {x at_ : Int} (hx0 : 0 ≤ x) (hx1 : x ≤ 68719476736) (ht : isT at_ = true) : lifeF 0 2147483648 [fE (showL x)] at_ = min (max (x - at_) 0) 2147483648 := by
  have c0 : ctlF [fE (showL x)] = ctl0 := ctlF_nothing _ (by simp [allF, isF_CC3]) (by
    have : isF nPragma (sExpires, showL x) = false := by show (lowerL sExpires == lowerL nPragma) = false; decide
    simp [allF, this])
  have h1 : allF [fE (showL x)] nExpires = [showL x] := by
    have : isF nExpires (sExpires, showL x) = true := by show (lowerL sExpires == lowerL nExpires) = true; decide
    simp [allF, this]
  have h2 : allF [fE (showL x)] nDate = [] := by
    have : isF nDate (sExpires, showL x) = false := by show (lowerL sExpires == lowerL nDate) = false; decide
    simp [allF, this]
  have hd : dayF [fE (showL x)] at_ = at_ := by unfold dayF; rw [dated_none _ _ h2]; rfl
  have he : datedF [fE (showL x)] nExpires = some x := by
    unfold datedF getF
    rw [h1]
    exact readDL_show x hx0 (by omega)
  unfold lifeF toldF
  rw [if_pos ht, c0, if_neg (by decide), if_neg (by decide), h1, if_neg (List.cons_ne_nil _ _), he, hd]
  simp only
  unfold clampI
  split <;> split <;> split <;> omega
theorem life_nil {at_ : Int} (ht : isT at_ = true) : lifeF 0 2147483648 [] at_ = 0 := by
  have hd : datedF [] nLast = none := dated_none _ _ rfl
  unfold lifeF toldF
  rw [if_pos ht, ctlF_nil, if_neg (by decide), if_neg (by decide), if_pos (show allF [] nExpires = [] from rfl), hd]
  show clampI 0 2147483648 0 = 0
  decide

/-! the document's examples -/
abbrev exF : List Fld := [(sCC, [109, 97, 120, 45, 97, 103, 101, 61, 54, 48])]
theorem ex_ctl : ctlF exF = { ctl0 with maxAge := some 60 } := by decide +kernel
theorem ex_day (at_ : Int) : dayF exF at_ = at_ := by
  unfold dayF; rw [dated_none exF nDate (by decide)]; rfl
theorem ex_num : numF exF nAge = 0 := by decide +kernel
theorem ex_life (at_ : Int) (h : isT at_ = true) : lifeF 0 3600 exF at_ = 60 := by
  unfold lifeF toldF
  rw [if_pos h, ex_ctl, if_neg (by decide), if_pos (by decide)]
  decide
theorem ex_age (now : Int) (h : isT now = true) (h2 : 100 ≤ now) : ageF exF 100 100 now = now - 100 := by
  unfold ageF ageR
  rw [h, show isT 100 = true by decide, ex_day, ex_num, if_pos (by decide)]
  omega
theorem ex_use1 : useF 0 3600 [] exF 100 100 110 = 0 := by
  unfold useF
  rw [ex_age 110 (by decide) (by decide), ex_life 100 (by decide), ctlF_nil, ex_ctl]
  decide
theorem ex_use2 : useF 0 3600 [] exF 100 100 160 = 1 := by
  unfold useF
  rw [ex_age 160 (by decide) (by decide), ex_life 100 (by decide), ctlF_nil, ex_ctl]
  decide
theorem ex_kept : keptF true nGet [] 200 exF = true := by
  unfold keptF ownedF timedF
  rw [ctlF_nil, ex_ctl]
  decide +kernel

/-! no seconds are above Far -/
theorem secE_le (arg : List UInt8) (other : Nat) (h : other ≤ farN) : secE arg other ≤ farN := by
  unfold secE
  split
  · exact h
  · rename_i s _
    cases e : numberL s with
    | none => exact h
    | some n =>
      show n ≤ farN
      unfold numberL at e
      split at e
      · injection e with e; rw [← e]; exact Nat.min_le_right _ _
      · cases e
theorem dirE_le (name : List UInt8) (other bare : Nat) (e : List UInt8) (h : other ≤ farN) (h2 : bare ≤ farN) : ∀ n, dirE name other bare e = some n → n ≤ farN := by
  intro n hn
  unfold dirE at hn
  split at hn
  · injection hn with hn
    rw [← hn]
    split
    · exact secE_le _ _ h
    · exact h2
  · cases hn
theorem comb_le {m : Bool} {a b : Option Nat} {c : Nat} (ha : ∀ n, a = some n → n ≤ c) (hb : ∀ n, b = some n → n ≤ c) : ∀ n, comb m a b = some n → n ≤ c := by
  intro n hn
  cases a with
  | none => exact hb n hn
  | some x =>
    cases b with
    | none => exact ha n hn
    | some y =>
      have h1 := ha x rfl
      have h2 := hb y rfl
      simp only [comb, Option.some.injEq] at hn
      rw [← hn]
      split <;> omega
theorem toldE_le (name : List UInt8) (other bare : Nat) (m : Bool) (h : other ≤ farN) (h2 : bare ≤ farN) : ∀ (E : List (List UInt8)) (n : Nat), toldE name other bare m E = some n → n ≤ farN := by
  refine snoc_ind ?_ (fun B e ih => ?_)
  · intro n hn; cases hn
  · intro n hn
    rw [toldE_snoc] at hn
    exact comb_le ih (dirE_le name other bare e h h2) n hn
theorem intO_bd {o : Option Nat} (h : ∀ n, o = some n → n ≤ farN) : -1 ≤ intO o ∧ intO o ≤ 2147483648 := by
  cases o with
  | none => exact ⟨Int.le_refl _, by decide⟩
  | some n => have := h n rfl; simp only [intO]; unfold farN at this; omega
structure CtlBd (c : Ctl) : Prop where
  a : -1 ≤ intO c.maxAge ∧ intO c.maxAge ≤ 2147483648
  s : -1 ≤ intO c.shared ∧ intO c.shared ≤ 2147483648
  f : -1 ≤ intO c.minFresh ∧ intO c.minFresh ≤ 2147483648
  t : -1 ≤ intO c.maxStale ∧ intO c.maxStale ≤ 2147483648
theorem ctlF_bd (l : List Fld) : CtlBd (ctlF l) :=
  ⟨intO_bd (toldE_le _ _ _ _ (by decide) (by decide) _), intO_bd (toldE_le _ _ _ _ (by decide) (by decide) _), intO_bd (toldE_le _ _ _ _ (by decide) (by decide) _), intO_bd (toldE_le _ _ _ _ (by decide) (by decide) _)⟩
theorem toldF_bd (l : List Fld) {z : Int} (h0 : 0 ≤ z) (h1 : z ≤ 253402300799) (hs : intO (ctlF l).shared ≤ 2147483648) (hm : intO (ctlF l).maxAge ≤ 2147483648) : 0 ≤ toldF l z ∧ toldF l z ≤ 253402300799 := by
  have hd := dayF_bd l (isT_of h0 h1)
  unfold toldF
  have hL : ∀ t, datedF l nLast = some t → 0 ≤ t ∧ t ≤ 253402300799 := fun t h => readDL_bd h
  have hE : ∀ t, datedF l nExpires = some t → 0 ≤ t ∧ t ≤ 253402300799 := fun t h => readDL_bd h
  have hd1 : 0 ≤ dayF l z ∧ dayF l z ≤ 253402300799 := hd
  by_cases c1 : 0 ≤ intO (ctlF l).shared
  · rw [if_pos c1]; omega
  · rw [if_neg c1]
    by_cases c2 : 0 ≤ intO (ctlF l).maxAge
    · rw [if_pos c2]; omega
    · rw [if_neg c2]
      by_cases c3 : allF l nExpires = []
      · rw [if_pos c3]
        cases hq : datedF l nLast with
        | none => simp
        | some t =>
          have := hL t hq
          simp only
          split <;> omega
      · rw [if_neg c3]
        cases hq : datedF l nExpires with
        | none => simp
        | some t =>
          have := hE t hq
          simp only
          split <;> omega
theorem lifeF_le {lo hi : Int} (l : List Fld) (z : Int) (h0 : 0 ≤ lo) (h1 : 0 ≤ hi) (h2 : hi ≤ 2147483648) (h3 : lo ≤ 2147483648) : 0 ≤ lifeF lo hi l z ∧ lifeF lo hi l z ≤ 2147483648 := by
  unfold lifeF
  split
  · rename_i ht
    have hb := isT_bd ht
    have := toldF_bd l hb.1 hb.2 (ctlF_bd l).s.2 (ctlF_bd l).a.2
    unfold clampI
    split <;> split <;> omega
  · omega
theorem ageF_le (l : List Fld) (x y z : Int) : 0 ≤ ageF l x y z ∧ ageF l x y z ≤ 1000000000000 := by
  refine ⟨ageF_nonneg l x y z, ?_⟩
  unfold ageF
  split
  · rename_i h
    simp only [Bool.and_eq_true] at h
    have a : 0 ≤ x ∧ x ≤ 253402300799 := isT_bd h.1
    have b : 0 ≤ y ∧ y ≤ 253402300799 := isT_bd h.2.1
    have c : 0 ≤ z ∧ z ≤ 253402300799 := isT_bd h.2.2
    have d : 0 ≤ dayF l y ∧ dayF l y ≤ 253402300799 := dayF_bd l h.2.1
    have n := numF_bd l nAge
    unfold ageR
    omega
  · decide
end Go.Pantry
/-
  Pass: what goes further, what is asked, what is merged, what is good still. No program is imported.
-/
namespace Go.Pantry
open Go.RowKit

def nConn : List UInt8 := [99, 111, 110, 110, 101, 99, 116, 105, 111, 110]
def nViaP : List UInt8 := [118, 105, 97]
def sViaP : List UInt8 := [86, 105, 97]
def markP : List UInt8 := [49, 46, 49, 32, 112, 97, 110, 116, 114, 121]
def nETag : List UInt8 := [101, 116, 97, 103]
def nINM : List UInt8 := [105, 102, 45, 110, 111, 110, 101, 45, 109, 97, 116, 99, 104]
def sINM : List UInt8 := [73, 102, 45, 78, 111, 110, 101, 45, 77, 97, 116, 99, 104]
def nIMS : List UInt8 := [105, 102, 45, 109, 111, 100, 105, 102, 105, 101, 100, 45, 115, 105, 110, 99, 101]
def sIMS : List UInt8 := [73, 102, 45, 77, 111, 100, 105, 102, 105, 101, 100, 45, 83, 105, 110, 99, 101]
def fixedN : List (List UInt8) := [[99, 111, 110, 110, 101, 99, 116, 105, 111, 110], [107, 101, 101, 112, 45, 97, 108, 105, 118, 101], [112, 114, 111, 120, 121, 45, 97, 117, 116, 104, 101, 110, 116, 105, 99, 97, 116, 101], [112, 114, 111, 120, 121, 45, 97, 117, 116, 104, 111, 114, 105, 122, 97, 116, 105, 111, 110], [112, 114, 111, 120, 121, 45, 99, 111, 110, 110, 101, 99, 116, 105, 111, 110], [116, 101], [116, 114, 97, 105, 108, 101, 114], [116, 114, 97, 110, 115, 102, 101, 114, 45, 101, 110, 99, 111, 100, 105, 110, 103], [117, 112, 103, 114, 97, 100, 101], [99, 111, 110, 116, 101, 110, 116, 45, 108, 101, 110, 103, 116, 104]]
def askN : List (List UInt8) := [nINM, nIMS, [105, 102, 45, 109, 97, 116, 99, 104], [105, 102, 45, 117, 110, 109, 111, 100, 105, 102, 105, 101, 100, 45, 115, 105, 110, 99, 101], [105, 102, 45, 114, 97, 110, 103, 101], [114, 97, 110, 103, 101]]
def contN : List (List UInt8) := [nViaP, [99, 111, 110, 116, 101, 110, 116, 45, 101, 110, 99, 111, 100, 105, 110, 103], [99, 111, 110, 116, 101, 110, 116, 45, 116, 121, 112, 101], [99, 111, 110, 116, 101, 110, 116, 45, 114, 97, 110, 103, 101]]
/-- what goes further -/
def stripF (l : List Fld) : List Fld := outsF (outsF l (elementsF l nConn)) fixedN
/-- the mark -/
def viaL (l : List Fld) : List UInt8 := if allF l nViaP = [] then markP else getF l nViaP ++ 44 :: 32 :: markP
def onwardF (l : List Fld) : List Fld := outF (stripF l) nViaP ++ [(sViaP, viaL l)]
noncomputable def askingF (req came : List Fld) : List Fld :=
  outsF (onwardF req) askN ++ (if getF came nETag = [] then [] else [(sINM, getF came nETag)]) ++ (if (datedF came nLast).isSome then [(sIMS, getF came nLast)] else [])
/-- of the first k fields those whose name is new, as one -/
def onceF (l : List Fld) : Nat → List Fld
  | 0 => []
  | k + 1 => match l[k]? with
    | none => onceF l k
    | some f => if (l.take k).any (isF f.1) then onceF l k else onceF l k ++ [(f.1, getF l f.1)]
def answerF (said : List Fld) : List Fld := outsF (stripF said) contN
def mergeF (came said : List Fld) : List Fld := withsF came (onceF (answerF said) (answerF said).length)
def strongL (s : List UInt8) : List UInt8 := if s.take 2 = [87, 47] then s.drop 2 else s
def goodE (t e : List UInt8) : Bool := e == [42] || (!(t.isEmpty) && strongL e == strongL t)
noncomputable def sinceF (a b : Option Int) : Bool := match a, b with
  | some x, some y => decide (y ≤ x)
  | _, _ => false
noncomputable def goodF (req came : List Fld) : Bool :=
  if allF req nINM = [] then sinceF (datedF req nIMS) (datedF came nLast) else (elementsF req nINM).any (goodE (getF came nETag))
def dropsF (m : List UInt8) (st : Int) : Bool := !([[71, 69, 84], [72, 69, 65, 68], [79, 80, 84, 73, 79, 78, 83], [84, 82, 65, 67, 69]].contains m) && (decide (200 ≤ st) && decide (st < 400))

/-! what was named goes no further -/
theorem outsF_sub {l : List Fld} {ns : List (List UInt8)} : ∀ f ∈ outsF l ns, f ∈ l := fun f h => (List.mem_filter.1 h).1
theorem allF_nil_sub {l m : List Fld} (h : ∀ f ∈ l, f ∈ m) {n : List UInt8} (hm : allF m n = []) : allF l n = [] := by
  simp only [allF, List.map_eq_nil_iff, List.filter_eq_nil_iff] at hm ⊢
  exact fun f hf => hm f (h f hf)
theorem isF_eq {n m : List UInt8} (h : lowerL n = lowerL m) : isF n = isF m := by funext f; exact isF_same h f
theorem allF_eq {n m : List UInt8} (h : lowerL n = lowerL m) (l : List Fld) : allF l n = allF l m := by simp only [allF, isF_eq h]
theorem outsF_none {l : List Fld} {ns : List (List UInt8)} {n m : List UInt8} (h : m ∈ ns) (e : lowerL m = lowerL n) : allF (outsF l ns) n = [] := by
  rw [← allF_eq e]; exact outsF_all l ns m h
theorem strip_fixed {l : List Fld} {n m : List UInt8} (h : m ∈ fixedN) (e : lowerL m = lowerL n) : allF (stripF l) n = [] := outsF_none h e
theorem strip_named {l : List Fld} {n : List UInt8} (h : n ∈ elementsF l nConn) : allF (stripF l) n = [] :=
  allF_nil_sub outsF_sub (outsF_none h rfl)
theorem elements_nil {l : List Fld} {n : List UInt8} (h : allF l n = []) : elementsF l n = [] := by
  unfold elementsF getF; rw [h]; rfl
theorem outsF_idem (l : List Fld) (ns : List (List UInt8)) : outsF (outsF l ns) ns = outsF l ns := by simp [outsF]
theorem strip_conn (l : List Fld) : allF (stripF l) nConn = [] := strip_fixed (m := nConn) (by decide) rfl
theorem strip_strip (l : List Fld) : stripF (stripF l) = stripF l := by
  show outsF (outsF (stripF l) (elementsF (stripF l) nConn)) fixedN = stripF l
  rw [elements_nil (strip_conn l), outsF_nil]
  exact outsF_idem _ _

/-! the mark, through several in a row -/
theorem isF_via : isF nViaP (sViaP, []) = true := by decide
theorem via_is (v : List UInt8) : isF nViaP (sViaP, v) = true := isF_via
theorem onward_all (l : List Fld) : allF (onwardF l) nViaP = [viaL l] := by
  unfold onwardF
  rw [allF_append, outF_allF]
  simp [allF, via_is]
theorem onward_out (l : List Fld) : outF (onwardF l) nViaP = outF (stripF l) nViaP := by
  unfold onwardF
  rw [outF_snoc, via_is, outF_idem]
  simp
theorem via_not {n : List UInt8} (h : lowerL sViaP ≠ lowerL n) (v : List UInt8) : isF n (sViaP, v) = false := by
  unfold isF; simpa using h
theorem onward_conn (l : List Fld) : allF (onwardF l) nConn = [] := by
  unfold onwardF
  rw [allF_append, allF_nil_sub (l := outF (stripF l) nViaP) (fun f h => (List.mem_filter.1 h).1) (strip_conn l)]
  simp [allF, via_not (n := nConn) (by decide)]
theorem outsF_append (a b : List Fld) (ns : List (List UInt8)) : outsF (a ++ b) ns = outsF a ns ++ outsF b ns := by simp [outsF]
theorem outs_out (l : List Fld) (ns : List (List UInt8)) (n : List UInt8) : outsF (outF l n) ns = outF (outsF l ns) n := by
  simp only [outsF, outF, List.filter_filter]
  congr 1
  funext f
  exact Bool.and_comm _ _
theorem strip_onward (l : List Fld) : stripF (onwardF l) = onwardF l := by
  show outsF (outsF (onwardF l) (elementsF (onwardF l) nConn)) fixedN = onwardF l
  rw [elements_nil (onward_conn l), outsF_nil]
  unfold onwardF
  rw [outsF_append, outs_out]
  have h1 : outsF (stripF l) fixedN = stripF l := outsF_idem _ _
  rw [h1]
  congr 1
/-- k times -/
def nextV (v : List UInt8) : List UInt8 := v ++ 44 :: 32 :: markP
theorem onward_again (l : List Fld) : viaL (onwardF l) = nextV (viaL l) := by
  unfold nextV
  rw [viaL, onward_all, if_neg (by simp), getF, onward_all]
  rfl
theorem onward_len (l : List Fld) : (onwardF l).length = (outF (stripF l) nViaP).length + 1 := by simp [onwardF]
def onwardN : Nat → List Fld → List Fld
  | 0, l => l
  | k + 1, l => onwardF (onwardN k l)
def nextN : Nat → List UInt8 → List UInt8
  | 0, v => v
  | k + 1, v => nextV (nextN k v)
theorem onwardN_form (l : List Fld) : ∀ k, onwardN (k + 1) l = outF (stripF l) nViaP ++ [(sViaP, nextN k (viaL l))]
  | 0 => rfl
  | k + 1 => by
    have ih := onwardN_form l k
    show onwardF (onwardN (k + 1) l) = _
    have h1 : outF (stripF (onwardN (k + 1) l)) nViaP = outF (stripF l) nViaP := by
      show outF (stripF (onwardF (onwardN k l))) nViaP = _
      rw [strip_onward]
      show outF (onwardN (k + 1) l) nViaP = _
      rw [ih, outF_snoc, via_is, outF_idem]; simp
    have h2 : viaL (onwardN (k + 1) l) = nextN (k + 1) (viaL l) := by
      have ha : allF (onwardN (k + 1) l) nViaP = [nextN k (viaL l)] := by
        rw [ih, allF_append, outF_allF]; simp [allF, via_is]
      rw [viaL, ha, if_neg (by simp), getF, ha]
      rfl
    unfold onwardF
    rw [h1, h2]
theorem onwardN_get (l : List Fld) (k : Nat) : allF (onwardN (k + 1) l) nViaP = [nextN k (viaL l)] := by
  rw [onwardN_form, allF_append, outF_allF]; simp [allF, via_is]

/-! merged -/
theorem onceF_name (l : List Fld) : ∀ k, ∀ f ∈ onceF l k, ∃ g ∈ l.take k, g.1 = f.1
  | 0 => by simp [onceF]
  | k + 1 => by
    intro f hf
    have ih := onceF_name l k
    rw [onceF] at hf
    cases hg : l[k]? with
    | none =>
      rw [hg] at hf
      obtain ⟨g, h1, h2⟩ := ih f hf
      exact ⟨g, List.take_subset_take_left l (Nat.le_succ k) h1, h2⟩
    | some x =>
      rw [hg] at hf
      have ht := take_fld hg
      by_cases hc : (l.take k).any (isF x.1) = true
      · simp only [hc, if_true] at hf
        obtain ⟨g, h1, h2⟩ := ih f hf
        exact ⟨g, by rw [ht]; exact List.mem_append.2 (Or.inl h1), h2⟩
      · simp only [hc] at hf
        rcases List.mem_append.1 hf with hf | hf
        · obtain ⟨g, h1, h2⟩ := ih f hf
          exact ⟨g, by rw [ht]; exact List.mem_append.2 (Or.inl h1), h2⟩
        · rw [List.mem_singleton.1 hf]
          exact ⟨x, by rw [ht]; simp, rfl⟩
theorem isF_comm {f g : Fld} (h : isF f.1 g = false) : isF g.1 f = false := by
  unfold isF at h ⊢
  have : lowerL g.1 ≠ lowerL f.1 := by simpa using h
  simpa using fun e => this e.symm
theorem onceF_apart (l : List Fld) : ∀ k, (onceF l k).Pairwise fun f g => isF f.1 g = false
  | 0 => by simp [onceF]
  | k + 1 => by
    have ih := onceF_apart l k
    rw [onceF]
    cases hg : l[k]? with
    | none => exact ih
    | some x =>
      by_cases hc : (l.take k).any (isF x.1) = true
      · simp only [hc, if_true]; exact ih
      · simp only [hc]
        refine List.pairwise_append.2 ⟨ih, by simp, fun f hf g hg2 => ?_⟩
        rw [List.mem_singleton.1 hg2]
        obtain ⟨y, hy, e⟩ := onceF_name l k f hf
        have h0 := List.any_eq_false.1 (by simpa using hc : (l.take k).any (isF x.1) = false) y hy
        have h1 : isF x.1 y = false := by simpa using h0
        have h2 := isF_comm h1
        unfold isF at h2 ⊢
        rw [← e]
        exact h2
/-- a field stands once, as it is -/
def stands (X : List Fld) (f : Fld) : Prop := (∀ g ∈ X, isF f.1 g = true → g = f) ∧ allF X f.1 = [f.2]
theorem withF_stands {X : List Fld} {f : Fld} (h : stands X f) : withF X f = X := by
  have h2 := runW_still f X h.1 (by rw [h.2]; simp)
  have h3 : X.any (isF f.1) = true := by
    cases e : X.any (isF f.1)
    · have h4 := List.any_eq_false.1 e
      have h5 : allF X f.1 = [] := by
        simp only [allF, List.map_eq_nil_iff, List.filter_eq_nil_iff]
        exact h4
      rw [h.2] at h5
      cases h5
    · rfl
  unfold withF
  rw [h2, h3]
  rfl
theorem withsF_stands {X : List Fld} : ∀ (M : List Fld), (∀ f ∈ M, stands X f) → withsF X M = X
  | [], _ => rfl
  | f :: M, h => by
    show withsF (withF X f) M = X
    rw [withF_stands (h f (by simp))]
    exact withsF_stands M (fun g hg => h g (by simp [hg]))
theorem stands_with {X : List Fld} {f g : Fld} (h : stands X f) (hg : isF f.1 g = false) : stands (withF X g) f := by
  refine ⟨fun x hx hi => ?_, ?_⟩
  · rcases withF_of X g x hx with h1 | rfl
    · exact h.1 x h1 hi
    · rw [hg] at hi; cases hi
  · rw [withF_other X g f.1 hg]; exact h.2
theorem withsF_all (c : List Fld) (M : List Fld) : M.Pairwise (fun f g => isF f.1 g = false) → ∀ f ∈ M, stands (withsF c M) f := by
  refine snoc_ind (p := fun M => M.Pairwise (fun f g => isF f.1 g = false) → ∀ f ∈ M, stands (withsF c M) f) (by simp) (fun M g ih hp f hf => ?_) M
  rw [withsF_snoc]
  obtain ⟨p1, -, p3⟩ := List.pairwise_append.1 hp
  rcases List.mem_append.1 hf with h1 | h1
  · exact stands_with (ih p1 f h1) (p3 f h1 g (by simp))
  · rw [List.mem_singleton.1 h1]
    exact ⟨withF_mem _ _, withF_all _ _⟩
theorem merge_again (came said : List Fld) : mergeF (mergeF came said) said = mergeF came said :=
  withsF_stands _ (withsF_all _ _ (onceF_apart _ _))
theorem withsF_other (c : List Fld) (n : List UInt8) (M : List Fld) : (∀ f ∈ M, isF n f = false) → allF (withsF c M) n = allF c n := by
  refine snoc_ind (p := fun M => (∀ f ∈ M, isF n f = false) → allF (withsF c M) n = allF c n) (fun _ => rfl) (fun M g ih h => ?_) M
  rw [withsF_snoc, withF_other _ _ _ (h g (by simp))]
  exact ih (fun f hf => h f (by simp [hf]))
theorem merge_other {came said : List Fld} {n : List UInt8} (h : allF said n = []) : allF (mergeF came said) n = allF came n := by
  refine withsF_other _ _ _ (fun f hf => ?_)
  obtain ⟨g, h1, h2⟩ := onceF_name _ _ f hf
  have h3 : g ∈ said := outsF_sub g (outsF_sub g (outsF_sub g (List.mem_of_mem_take h1)))
  simp only [allF, List.map_eq_nil_iff, List.filter_eq_nil_iff] at h
  have h4 := h g h3
  unfold isF at h4 ⊢
  rw [h2] at h4
  simpa using h4

/-! asked, and good -/
theorem ask_out (req : List Fld) {n : List UInt8} (h : n ∈ askN) : allF (outsF (onwardF req) askN) n = [] := outsF_all _ _ n h
theorem ask_inm (req came : List Fld) : allF (askingF req came) nINM = if getF came nETag = [] then [] else [getF came nETag] := by
  have e1 : ∀ v, isF nINM (sINM, v) = true := fun v => by show (lowerL sINM == lowerL nINM) = true; decide
  have e2 : ∀ v, isF nINM (sIMS, v) = false := fun v => by show (lowerL sIMS == lowerL nINM) = false; decide
  unfold askingF
  rw [allF_append, allF_append, ask_out req (by simp [askN])]
  by_cases h : getF came nETag = []
  · rw [if_pos h, if_pos h]
    split <;> simp [allF, e2]
  · rw [if_neg h, if_neg h]
    split <;> simp [allF, e1, e2]
theorem ask_ims (req came : List Fld) : allF (askingF req came) nIMS = if (datedF came nLast).isSome then [getF came nLast] else [] := by
  have e1 : ∀ v, isF nIMS (sINM, v) = false := fun v => by show (lowerL sINM == lowerL nIMS) = false; decide
  have e2 : ∀ v, isF nIMS (sIMS, v) = true := fun v => by show (lowerL sIMS == lowerL nIMS) = true; decide
  unfold askingF
  rw [allF_append, allF_append, ask_out req (by simp [askN])]
  by_cases h : getF came nETag = []
  · rw [if_pos h]
    split <;> simp [allF, e2]
  · rw [if_neg h]
    split <;> simp [allF, e1, e2]
/-- a tag without commas and blanks is an element of itself -/
theorem tag_list {t : List UInt8} (hne : t ≠ []) (h : ∀ c ∈ t, c ≠ 44 ∧ isBl c = false) : listL t = [t] := by
  have ht : trimL t = t := trim_whole _ (fun c hc => (h c (List.mem_of_mem_head? hc)).2) (fun c hc => (h c (List.mem_of_getLast? hc)).2)
  rw [listL_single t (fun hc => (h 44 hc).1 rfl), ht, if_neg hne]
theorem round_good {req came : List Fld} (h : ∀ c ∈ getF came nETag, c ≠ 44 ∧ isBl c = false) :
    goodF (askingF req came) came = (!(allF (askingF req came) nINM).isEmpty || !(allF (askingF req came) nIMS).isEmpty) := by
  unfold goodF
  rw [ask_inm, ask_ims]
  by_cases ht : getF came nETag = []
  · rw [if_pos ht, if_pos rfl]
    cases hd : datedF came nLast with
    | none =>
      have h0 : datedF (askingF req came) nIMS = none := dated_none _ _ (by rw [ask_ims, hd]; rfl)
      rw [h0]; rfl
    | some t =>
      have h0 : datedF (askingF req came) nIMS = some t := by
        unfold datedF at hd ⊢
        rw [getF, ask_ims]
        unfold datedF
        rw [hd]
        exact hd
      rw [h0]
      simp [sinceF]
  · rw [if_neg ht, if_neg (by simp)]
    have he : elementsF (askingF req came) nINM = [getF came nETag] := by
      unfold elementsF
      rw [getF, ask_inm, if_neg ht]
      exact tag_list ht h
    rw [he]
    have hq : (getF came nETag).isEmpty = false := by cases hx : getF came nETag <;> simp_all
    simp [goodE, hq]
theorem plain_good (req came : List Fld) : goodF (outsF (onwardF req) [nINM, nIMS]) came = false := by
  unfold goodF
  rw [outsF_all _ _ nINM (by simp), if_pos rfl, dated_none _ _ (outsF_all _ _ nIMS (by simp))]
  rfl
end Go.Pantry
/-
  Tags, one or several, weak or not. No program is imported.
-/
namespace Go.Pantry
open Go.RowKit

/-- an element that stands for itself, whatever comes behind -/
structure Shut (e : List UInt8) : Prop where
  ne : e ≠ []
  trim : trimL e = e
  end_ : cut false false e = e.length
  more : ∀ r, cut false false (e ++ 44 :: r) = e.length
theorem listL_shut : ∀ (E : List (List UInt8)), (∀ e ∈ E, Shut e) → listL (joinC E) = E
  | [], _ => rfl
  | [e], h => by
    have s := h e (by simp)
    show listL e = [e]
    rw [listL_cons e s.ne, s.end_, List.take_length, s.trim, if_neg s.ne, List.drop_of_length_le (by omega), listL_nil]
  | e :: f :: E, h => by
    have s := h e (by simp)
    have ih := listL_shut (f :: E) (fun x hx => h x (by simp [hx]))
    show listL (e ++ 44 :: 32 :: joinC (f :: E)) = e :: f :: E
    rw [listL_cons _ (by simp), s.more, List.take_left, s.trim, if_neg s.ne]
    rw [show (e ++ 44 :: 32 :: joinC (f :: E)).drop (e.length + 1) = 32 :: joinC (f :: E) by rw [← List.drop_drop, List.drop_left]; rfl]
    rw [listL_blank, ih]
def tagT (c : UInt8) : List UInt8 := [34, c, 34]
def weakT (w : Bool) (c : UInt8) : List UInt8 := if w then 87 :: 47 :: tagT c else tagT c
theorem shut_tag {c : UInt8} (h1 : c ≠ 34) (h2 : c ≠ 92) (hb : isBl c = false) : Shut (tagT c) :=
  ⟨by simp [tagT], trim_whole _ (by simp [tagT]; decide) (by simp [tagT]; decide), by simp [tagT, cut, nextIn, nextSkip, h1, h2], fun r => by simp [tagT, cut, nextIn, nextSkip, h1, h2]⟩
theorem shut_weak {c : UInt8} (h1 : c ≠ 34) (h2 : c ≠ 92) (hb : isBl c = false) (w : Bool) : Shut (weakT w c) := by
  cases w with
  | false => exact shut_tag h1 h2 hb
  | true => exact ⟨by simp [weakT], trim_whole _ (by simp [weakT]; decide) (by simp [weakT, tagT]; decide), by simp [weakT, tagT, cut, nextIn, nextSkip, h1, h2], fun r => by simp [weakT, tagT, cut, nextIn, nextSkip, h1, h2]⟩
theorem shut_star : Shut [42] := ⟨by simp, trim_whole _ (by simp; decide) (by simp; decide), by simp [cut, nextIn, nextSkip], fun r => by simp [cut, nextIn, nextSkip]⟩
theorem strong_tag (c : UInt8) : strongL (tagT c) = tagT c := by simp [strongL, tagT]
theorem strong_weak (w : Bool) (c : UInt8) : strongL (weakT w c) = tagT c := by
  cases w with
  | false => exact strong_tag c
  | true => simp [strongL, weakT, tagT]
theorem good_tag (a b : UInt8) (w : Bool) : goodE (tagT a) (weakT w b) = (b == a) := by
  have h0 : (weakT w b == [42]) = false := by cases w <;> simp [weakT, tagT]
  have h1 : (tagT a).isEmpty = false := rfl
  unfold goodE
  rw [h0, h1, strong_weak, strong_tag]
  simp [tagT]
theorem good_star (t : List UInt8) : goodE t [42] = true := by simp [goodE]
/-- what is asked with one field If-None-Match, of a response with one tag -/
theorem good_asked (n m t : List UInt8) (hn : lowerL n = nINM) (hm : lowerL m = nETag) (E : List (List UInt8)) (hE : ∀ e ∈ E, Shut e) :
    goodF [(n, joinC E)] [(m, t)] = E.any (goodE t) := by
  have e1 : isF nINM (n, joinC E) = true := by show (lowerL n == lowerL nINM) = true; rw [hn]; decide
  have e2 : isF nETag (m, t) = true := by show (lowerL m == lowerL nETag) = true; rw [hm]; decide
  have a1 : allF [(n, joinC E)] nINM = [joinC E] := by simp [allF, e1]
  have a2 : allF [(m, t)] nETag = [t] := by simp [allF, e2]
  unfold goodF
  rw [a1, if_neg (by simp)]
  have g2 : getF [(m, t)] nETag = t := by rw [getF, a2]; rfl
  have g1 : elementsF [(n, joinC E)] nINM = E := by
    unfold elementsF
    rw [getF, a1]
    exact listL_shut E hE
  rw [g1, g2]
theorem weak_asked (a b : UInt8) (w : Bool) (l : List UInt8) : (weakT w b :: l.map tagT).any (goodE (tagT a)) = (b == a || l.any (· == a)) := by
  rw [List.any_cons, good_tag, List.any_map]
  congr 1
  induction l with
  | nil => rfl
  | cons c l ih => rw [List.any_cons, List.any_cons, ih]; congr 1; exact good_tag a c false
theorem star_asked (t : List UInt8) (E : List (List UInt8)) : (E ++ [[42]]).any (goodE t) = true := by
  rw [List.any_append]; simp [good_star]
end Go.Pantry

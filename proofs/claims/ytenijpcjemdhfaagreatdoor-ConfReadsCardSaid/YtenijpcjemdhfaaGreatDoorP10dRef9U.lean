/-
  The document's reader: rule.
-/
import Derived.Test.YtenijpcjemdhfaaGreatDoorP10dRef9Q
namespace Go.Pantry
open Go.RowKit
theorem chk_twice {b c : Bool} {k : Nat} {p : Ps} : chk b k (chk c k p) = chk (b && c) k p := by
  by_cases h0 : p.code = 0
  · cases c
    · rw [chk_no h0, Bool.and_false, chk_no h0]
      unfold chk
      split
      · rfl
      · rename_i h
        have : k = 0 := by
          by_cases e : k = 0
          · exact e
          · exfalso; apply h; simp [e]
        subst this; rfl
    · rw [chk_true, Bool.and_true]
  · rw [chk_off h0, chk_off h0, chk_off h0]
theorem contains_snoc {L : List (List UInt8)} {x w : List UInt8} : (L ++ [x]).contains w = (L.contains w || x == w) := by
  rw [Bool.eq_iff_iff, List.contains_iff_mem, Bool.or_eq_true, List.contains_iff_mem, List.mem_append, List.mem_singleton, beq_iff_eq]
  constructor
  · rintro (h | h)
    · exact .inl h
    · exact .inr h.symm
  · rintro (h | h)
    · exact .inl h
    · exact .inr h.symm
end Go.Pantry
namespace Go.Proofs.YtenijpcjemdhfaaGreatDoor
open Go.RowKit Go.Pantry

/-- what rule leaves -/
def RulePostD (w : World) (g D b : Nat) (T : List UInt8) (hv vs : Value) (L : List (List UInt8)) (y : List UInt8) (r : SiteM × Ps) (e : Ending) (w' : World) : Prop :=
  ∃ v', e = .returned v' ∧ w'.ownsRow 0 9 1 v' (L.length + 1) ((L ++ [y]).map strV) ∧ Dc w' g D T r.2 ∧ ∃ hv' s', Ds w' b hv' s' ∧ (r.2.code = 0 → s' = r.1) ∧ Moves w hv hv' ∧ Kept (fun k => k = g ∨ Fb b hv k ∨ vs.ownBlock = some k) w w' ∧
    (∀ k, v'.ownBlock = some k → vs.ownBlock = some k ∨ w.heap.size ≤ k) ∧ ∀ k, v'.ownBlock = some k → ¬ hv'.ownBlock = some k
theorem rule_seen {w w8 : World} {g b : Nat} {hv vs : Value} {L : List (List UInt8)} (h : w.ownsRow 0 9 1 vs L.length (L.map strV)) (ha : ∀ k, vs.ownBlock = some k → b < k ∧ ¬ hv.ownBlock = some k) (hgb : g < b) (hk : Kept (fun k => k = g ∨ Fb b hv k) w w8) : w8.ownsRow 0 9 1 vs L.length (L.map strV) :=
  ownsRow_kept h hk (fun k hk e => by
    have := ha k hk
    rcases e with e | e | e
    · omega
    · omega
    · exact this.2 e)
theorem rule_end {w w8 W9 w10 : World} {g D b n : Nat} {T y : List UInt8} {hv hv' vs v10 : Value} {s' : SiteM} {L : List (List UInt8)} {r : SiteM × Ps} (hn : L.length = n) (h : w.ownsRow 0 9 1 vs L.length (L.map strV)) (ha : ∀ k, vs.ownBlock = some k → b < k ∧ ¬ hv.ownBlock = some k) (hgb : g < b) (hDb : D ≤ b)
    (hd : Dc w8 g D T r.2) (hs : Ds w8 b hv' s') (hs0 : r.2.code = 0 → s' = r.1) (hm : Moves w hv hv') (hk : Kept (fun k => k = g ∨ Fb b hv k) w w8) (hb : Below w8.heap.size w8 W9)
    (ho : w10.ownsRow 0 9 1 v10 (n + 1) (L.map strV ++ [strV y])) (hg : W9.grownBy w10 vs.ownBlock) (hi : In (fun k => vs.ownBlock = some k ∨ W9.heap.size ≤ k) v10) : RulePostD w g D b T hv vs L y r (.returned v10) w10 := by
  have kg := (Kept.refl (fun k => vs.ownBlock = some k) W9).grown hg (fun k hk _ => hk)
  have s8 := hk.size
  have s9 := hb.size
  have hvn : ∀ k, vs.ownBlock = some k → ¬ hv'.ownBlock = some k := fun k e e2 => by
    rcases hm k e2 with e3 | e3
    · exact (ha k e).2 e3
    · have := (h.lt k e).2; omega
  refine ⟨v10, rfl, ?_, ?_, hv', s', ?_, hs0, hm, ?_, ?_, ?_⟩
  · rw [hn, List.map_append]; exact ho
  · exact (hd.below hb).kept kg (fun k hk e => by have := (ha k e).1; omega)
  · exact (hs.below hb).kept kg (fun k hf e => by
      rcases hf with e2 | e2
      · have := (ha k e).1; omega
      · exact hvn k e e2)
  · exact ((hk.mono (fun k h _ => h.elim (fun e => .inl e) (fun e => .inr (.inl e)))).trans (Kept.of_below (X := fun _ => False) hb) (fun k h _ => h.elim)).trans kg (fun k h _ => .inr (.inr h))
  · exact fun k e => (hi k e).imp id (fun e2 => by omega)
  · intro k e e2
    rcases hi k e with e3 | e3
    · exact hvn k e3 e2
    · have := hs.lt (.inr e2); omega
/-- the rule as it is read, the word once seen -/
theorem rule_is {s : SiteM} {seen : List (List UInt8)} {p : Ps} (h : isRule (hdW p) = true) : ((ruleM s seen p).1, (ruleM s seen p).2.2) = ((kindM (hdW p) s (onceM seen p)).1, expM [59] (kindM (hdW p) s (onceM seen p)).2) := by
  unfold ruleM; rw [h]; rfl
theorem rule_not {s : SiteM} {seen : List (List UInt8)} {p : Ps} (h : isRule (hdW p) = false) : ((ruleM s seen p).1, (ruleM s seen p).2.2) = (s, chk false 30 p) := by
  unfold ruleM; rw [h]; rfl
set_option maxRecDepth 8000 in
set_option maxHeartbeats 8000000 in
theorem docRule_any (g D b : Nat) (T : List UInt8) (p : Ps) (hv vs : Value) (s : SiteM) (L seen : List (List UInt8)) (w : World) (h : Dc w g D T p) (hs : Ds w b hv s) (hDb : D ≤ b) (h0 : p.code = 0)
    (hv0 : w.ownsRow 0 9 1 vs L.length (L.map strV)) (hva : ∀ k, vs.ownBlock = some k → b < k ∧ ¬ hv.ownBlock = some k) (hL : L.length ≤ 100000) (hsee : ∀ x, L.contains x = seen.contains x) (hkey : seen.contains wKey = false → s.heads = []) :
    Calls Tryz.prog 61 #[.pointer (some ⟨g, 0, none⟩), .pointer (some ⟨b, 0, none⟩), vs] w (RulePostD w g D b T hv vs L (hdW p) ((ruleM s seen p).1, (ruleM s seen p).2.2)) := by
  have HD := hid h
  have HS := hid hs
  have HDB := hid (show g < b ∧ D ≤ b from ⟨Nat.lt_of_lt_of_le h.lt hDb, hDb⟩)
  have HC := hid h0
  have HV := hid (And.intro hv0 hva)
  have HSEE := hid (And.intro hsee hkey)
  obtain ⟨av, cv, ev⟩ := hv0.reads.form
  rw [List.length_map] at ev
  obtain ⟨n, hn⟩ : ∃ n, L.length = n := ⟨_, rfl⟩
  rw [hn] at ev hL
  subst ev
  have HN := hid (And.intro hn hL)
  clear h hs hDb h0 hv0 hva hsee hkey hn
  go_enter Tryz.func61, Tryz.ntmps61
  go_wp2_with fail
  refine (docWord_any g D T p w HD.out).mono ?_
  rintro e w1 ⟨⟨y, rfl, hy, -⟩, hb1⟩
  have HY := hid (hy HC.out)
  have HB1 := hid hb1
  clear hy hb1
  by_cases c1 : y = wOrigin
  · subst c1
    have z0 : (wOrigin == [111, 114, 105, 103, 105, 110]) = true := rfl
    have n0 : (wOrigin != [111, 114, 105, 103, 105, 110]) = false := rfl
    have z1 : (wOrigin == [116, 116, 108]) = false := rfl
    have n1 : (wOrigin != [116, 116, 108]) = true := rfl
    have z2 : (wOrigin == [107, 101, 121]) = false := rfl
    have n2 : (wOrigin != [107, 101, 121]) = true := rfl
    have z3 : (wOrigin == [107, 101, 101, 112]) = false := rfl
    have n3 : (wOrigin != [107, 101, 101, 112]) = true := rfl
    have HS0 := hid (And.intro (HD.out.below HB1.out) (Kept.of_below (X := fun k => k = g) HB1.out))
    go_wp2_with fail
    go_loopw [8] (fun z wr => ∃ (k : Nat), z = .int .i64 (k : Int) ∧ k ≤ n ∧ Dc wr g D T (chk (!((L.take k).contains wOrigin)) 31 p) ∧ Kept (fun k => k = g) w wr) (fun z _ => n - (intOf z).toNat)
    case atStart => exact ⟨0, rfl, Nat.zero_le _, (by rw [List.take_zero]; show Dc _ g D T (chk true 31 p); rw [chk_true]; exact HS0.out.1), HS0.out.2⟩
    case round =>
      obtain ⟨k, rfl, hk, hd, hkk⟩ := hrel
      have HDK := hid (And.intro hd hkk)
      by_cases hlt : k < n
      · obtain ⟨x, hx⟩ : ∃ x, L[k]? = some x := by
          have := HN.out.1
          exact ⟨L[k]'(by omega), List.getElem?_eq_getElem (by omega)⟩
        have hvr := ownsRow_kept HV.out.1 hkk (fun j hj e => by have := (HV.out.2 j hj).1; have := HDB.out.1; omega)
        obtain ⟨av', cv', e1, f1, -⟩ := hvr.reads
        injection e1 with e1 e2 e3
        clear e2 e3
        subst e1
        obtain ⟨b6, o6, g6, i6⟩ := f1 k (strV x) (by rw [List.getElem?_map, hx]; rfl)
        subst g6
        have d6 : wr.cell? ⟨b6, o6 + k, none⟩ = some (strV x) := i6
        have hkI : (k : Int) < (n : Int) := by omega
        have hk0 : (0 : Int) ≤ (k : Int) := by omega
        have hkw : IntKind.i64.wrap ((k : Int) + 1) = (k : Int) + 1 := IntWalk.i64_in _ (by have := HN.out.2; omega)
        have hct : (L.take (k + 1)).contains wOrigin = ((L.take k).contains wOrigin || x == wOrigin) := by rw [List.take_add_one, hx]; exact contains_snoc
        have HCT := hid hct
        clear hd hkk hvr f1 i6 hx hct
        by_cases hxy : x = wOrigin
        · have zx : (x == wOrigin) = true := by simpa using hxy
          have HZX := hid zx
          clear hxy
          go_wp2_with fail
          refine (docFail_any g D 31 T _ wr HDK.out.1 (by decide)).mono ?_
          rintro e w3 ⟨⟨u3, rfl⟩, hd3, hk3⟩
          rw [chk_twice, show (false && !((L.take k).contains wOrigin)) = !((L.take (k + 1)).contains wOrigin) by rw [HCT.out, HZX.out]; simp] at hd3
          have H3 := hid (And.intro hd3 (HDK.out.2.trans hk3 (fun k h _ => h)))
          clear hd3 hk3
          go_wp2_with fail
          go_roundw
          case rel => exact ⟨k + 1, by go_num, hlt, H3.out.1, H3.out.2⟩
          case measure => simp [intOf]; omega
        · have zx : (x == wOrigin) = false := by simpa using hxy
          have H3 := hid (show Dc wr g D T (chk (!((L.take (k + 1)).contains wOrigin)) 31 p) by rw [HCT.out, zx, Bool.or_false]; exact HDK.out.1)
          clear hxy
          go_wp2_with fail
          go_roundw
          case rel => exact ⟨k + 1, by go_num, hlt, H3.out, HDK.out.2⟩
          case measure => simp [intOf]; omega
      · have hkI : ¬ (k : Int) < (n : Int) := by omega
        have HQ0 := hid (show Dc wr g D T (chk (!(L.contains wOrigin)) 31 p) by
          have := HDK.out.1
          rwa [List.take_of_length_le (by have := HN.out.1; omega)] at this)
        clear hd hkk
        go_wp2_with fail
        refine (docStep_any g D T _ wr HQ0.out).mono ?_
        rintro e w5 ⟨⟨u5, rfl⟩, hd5, hk5⟩
        have HD5 := hid hd5
        have HK5 := hid (HDK.out.2.trans hk5 (fun k h _ => h))
        clear hd5 hk5
        have hrn := rule_is (s := s) (seen := seen) (p := p) (by rw [← HY.out]; rfl)
        rw [← HY.out] at hrn
        obtain ⟨q, hq⟩ : ∃ q, onceM seen p = q := ⟨_, rfl⟩
        have hd6 : Dc w5 g D T q := by
          rw [← hq]; unfold onceM; rw [← HY.out, ← HSEE.out.1]; exact HD5.out
        have hq0 : q.code = 0 → seen.contains wOrigin = false := fun e => by
          rw [← hq] at e
          unfold onceM at e
          rw [← HY.out] at e
          have := (chk_ok (by decide) (show (chk (!(seen.contains wOrigin)) 31 p).code = 0 from e)).2.1
          simpa using this
        rw [hq] at hrn
        have hs5 := HS.out.other HK5.out HDB.out.1
        have HD6 := hid (And.intro hd6 (And.intro hs5 hq0))
        have HRN := hid hrn
        clear hrn hq hd6 hs5 hq0
        go_wp2_with fail
        refine (docNumber_any g D 1 9 T q w5 HD6.out.1 (by decide) (by decide)).mono ?_
        rintro e w6 ⟨⟨nn, rfl, hnb, hnv⟩, hd7, hk7⟩
        have hs6 := HD6.out.2.1.other hk7 HDB.out.1
        have hc1 := hs6.row.cell 1
        have hf1 := hs6.row.free 1
        obtain ⟨A1, A2, A3⟩ := hs6.set (s' := { s with origin := nn }) hd7 HDB.out.2 1 (.int .i64 (nn : Int)) rfl rfl
        obtain ⟨W7, hW7⟩ : ∃ W, w6.setCell ⟨b, 1, none⟩ (.int .i64 (nn : Int)) = W := ⟨_, rfl⟩
        rw [hW7] at A1 A2 A3
        have H7 := hid (And.intro A1 (And.intro A2 (And.intro hnv (kept_b (kept_s (kept_s (kept_0 w g b hv) HK5.out) hk7) A3))))
        have HW7 := hid hW7
        clear hs6 A1 A2 A3 hW7 hnv hd7 hk7 hnb
        go_wp2_with fail
        try change Calls _ _ _ (w6.setCell ⟨b, 1, none⟩ (.int .i64 (nn : Int))) _
        rw [HW7.out]
        clear hc1 hf1
        refine (docMust_any g D T [59] (numM 1 9 q) W7 H7.out.1).mono ?_
        rintro e w8 ⟨⟨u8, rfl⟩, hd8, hk8⟩
        have H8 : Hid (Dc w8 g D T ((ruleM s seen p).1, (ruleM s seen p).2.2).2 ∧ Ds w8 b hv { s with origin := nn } ∧ (((ruleM s seen p).1, (ruleM s seen p).2.2).2.code = 0 → { s with origin := nn } = ((ruleM s seen p).1, (ruleM s seen p).2.2).1) ∧ Moves w hv hv ∧ Kept (fun k => k = g ∨ Fb b hv k) w w8) := by
          rw [HRN.out]
          refine ⟨hd8, H7.out.2.1.other hk8 HDB.out.1, fun e => ?_, Moves.refl _ _, kept_s H7.out.2.2.2 hk8⟩
          have e0 := (fol_exp [59] (numM 1 9 q)).ok e
          show _ = { s with origin := valD (hdW q) }
          rw [H7.out.2.2.1 e0]
        clear hd8 hk8
        obtain ⟨W9, hW9⟩ : ∃ W, w8.alloc (.cells #[strV wOrigin] 9) = W := ⟨_, rfl⟩
        have hb9 : Below w8.heap.size w8 W9 := by rw [← hW9]; exact below_alloc _ _
        have r9 : rowIs W9 w8.heap.size #[strV wOrigin] 9 := by rw [← hW9]; exact rowIs_new _ _ _
        have ho9 : W9.ownsRow 0 9 1 (.slice av n cv) n (L.map strV) := by
          have := rule_seen HV.out.1 HV.out.2 HDB.out.1 H8.out.2.2.2.2
          rw [HN.out.1] at this
          exact ownsRow_kept this (Kept.of_below (X := fun _ => False) hb9) (fun _ _ h => h)
        have hl9 : n + 1 < 4294967296 := by have := HN.out.2; omega
        have HB9 := hid hb9
        clear hb9
        go_wp2_with (at_builtin; go_loud (go_must (refine wpList_append_genD W9 rfl _ _ 62 rfl 0 9 Tryz.underlying62 infoStr rfl (by decide) (by decide) (v := .slice av n cv) rfl ho9 ⟨w8.heap.size, 0, none⟩ 1 1 [strV wOrigin] rfl (fun j u hj => by rw [addAt2, Nat.zero_add, r9.cell j]; simpa using hj) (fun u hu => by rw [List.mem_singleton] at hu; subst hu; rfl) rfl hl9 (Nat.zero_le _) ?_); intro v10 w10 ho10 hg10 hi10; have HE10 := hid (rule_end (r := ((ruleM s seen p).1, (ruleM s seen p).2.2)) HN.out.1 HV.out.1 HV.out.2 HDB.out.1 HDB.out.2 H8.out.1 H8.out.2.1 H8.out.2.2.1 H8.out.2.2.2.1 H8.out.2.2.2.2 HB9.out ho10 hg10 hi10)))
        go_ret
        rw [← HY.out]
        exact HE10.out
  by_cases c2 : y = wTtl
  · subst c2
    have z0 : (wTtl == [111, 114, 105, 103, 105, 110]) = false := rfl
    have n0 : (wTtl != [111, 114, 105, 103, 105, 110]) = true := rfl
    have z1 : (wTtl == [116, 116, 108]) = true := rfl
    have n1 : (wTtl != [116, 116, 108]) = false := rfl
    have z2 : (wTtl == [107, 101, 121]) = false := rfl
    have n2 : (wTtl != [107, 101, 121]) = true := rfl
    have z3 : (wTtl == [107, 101, 101, 112]) = false := rfl
    have n3 : (wTtl != [107, 101, 101, 112]) = true := rfl
    have HS0 := hid (And.intro (HD.out.below HB1.out) (Kept.of_below (X := fun k => k = g) HB1.out))
    go_wp2_with fail
    go_loopw [8] (fun z wr => ∃ (k : Nat), z = .int .i64 (k : Int) ∧ k ≤ n ∧ Dc wr g D T (chk (!((L.take k).contains wTtl)) 31 p) ∧ Kept (fun k => k = g) w wr) (fun z _ => n - (intOf z).toNat)
    case atStart => exact ⟨0, rfl, Nat.zero_le _, (by rw [List.take_zero]; show Dc _ g D T (chk true 31 p); rw [chk_true]; exact HS0.out.1), HS0.out.2⟩
    case round =>
      obtain ⟨k, rfl, hk, hd, hkk⟩ := hrel
      have HDK := hid (And.intro hd hkk)
      by_cases hlt : k < n
      · obtain ⟨x, hx⟩ : ∃ x, L[k]? = some x := by
          have := HN.out.1
          exact ⟨L[k]'(by omega), List.getElem?_eq_getElem (by omega)⟩
        have hvr := ownsRow_kept HV.out.1 hkk (fun j hj e => by have := (HV.out.2 j hj).1; have := HDB.out.1; omega)
        obtain ⟨av', cv', e1, f1, -⟩ := hvr.reads
        injection e1 with e1 e2 e3
        clear e2 e3
        subst e1
        obtain ⟨b6, o6, g6, i6⟩ := f1 k (strV x) (by rw [List.getElem?_map, hx]; rfl)
        subst g6
        have d6 : wr.cell? ⟨b6, o6 + k, none⟩ = some (strV x) := i6
        have hkI : (k : Int) < (n : Int) := by omega
        have hk0 : (0 : Int) ≤ (k : Int) := by omega
        have hkw : IntKind.i64.wrap ((k : Int) + 1) = (k : Int) + 1 := IntWalk.i64_in _ (by have := HN.out.2; omega)
        have hct : (L.take (k + 1)).contains wTtl = ((L.take k).contains wTtl || x == wTtl) := by rw [List.take_add_one, hx]; exact contains_snoc
        have HCT := hid hct
        clear hd hkk hvr f1 i6 hx hct
        by_cases hxy : x = wTtl
        · have zx : (x == wTtl) = true := by simpa using hxy
          have HZX := hid zx
          clear hxy
          go_wp2_with fail
          refine (docFail_any g D 31 T _ wr HDK.out.1 (by decide)).mono ?_
          rintro e w3 ⟨⟨u3, rfl⟩, hd3, hk3⟩
          rw [chk_twice, show (false && !((L.take k).contains wTtl)) = !((L.take (k + 1)).contains wTtl) by rw [HCT.out, HZX.out]; simp] at hd3
          have H3 := hid (And.intro hd3 (HDK.out.2.trans hk3 (fun k h _ => h)))
          clear hd3 hk3
          go_wp2_with fail
          go_roundw
          case rel => exact ⟨k + 1, by go_num, hlt, H3.out.1, H3.out.2⟩
          case measure => simp [intOf]; omega
        · have zx : (x == wTtl) = false := by simpa using hxy
          have H3 := hid (show Dc wr g D T (chk (!((L.take (k + 1)).contains wTtl)) 31 p) by rw [HCT.out, zx, Bool.or_false]; exact HDK.out.1)
          clear hxy
          go_wp2_with fail
          go_roundw
          case rel => exact ⟨k + 1, by go_num, hlt, H3.out, HDK.out.2⟩
          case measure => simp [intOf]; omega
      · have hkI : ¬ (k : Int) < (n : Int) := by omega
        have HQ0 := hid (show Dc wr g D T (chk (!(L.contains wTtl)) 31 p) by
          have := HDK.out.1
          rwa [List.take_of_length_le (by have := HN.out.1; omega)] at this)
        clear hd hkk
        go_wp2_with fail
        refine (docStep_any g D T _ wr HQ0.out).mono ?_
        rintro e w5 ⟨⟨u5, rfl⟩, hd5, hk5⟩
        have HD5 := hid hd5
        have HK5 := hid (HDK.out.2.trans hk5 (fun k h _ => h))
        clear hd5 hk5
        have hrn := rule_is (s := s) (seen := seen) (p := p) (by rw [← HY.out]; rfl)
        rw [← HY.out] at hrn
        obtain ⟨q, hq⟩ : ∃ q, onceM seen p = q := ⟨_, rfl⟩
        have hd6 : Dc w5 g D T q := by
          rw [← hq]; unfold onceM; rw [← HY.out, ← HSEE.out.1]; exact HD5.out
        have hq0 : q.code = 0 → seen.contains wTtl = false := fun e => by
          rw [← hq] at e
          unfold onceM at e
          rw [← HY.out] at e
          have := (chk_ok (by decide) (show (chk (!(seen.contains wTtl)) 31 p).code = 0 from e)).2.1
          simpa using this
        rw [hq] at hrn
        have hs5 := HS.out.other HK5.out HDB.out.1
        have HD6 := hid (And.intro hd6 (And.intro hs5 hq0))
        have HRN := hid hrn
        clear hrn hq hd6 hs5 hq0
        go_wp2_with fail
        refine (docNumber_any g D 0 2147483648 T q w5 HD6.out.1 (by decide) (by decide)).mono ?_
        rintro e w6 ⟨⟨nn, rfl, hnb, hnv⟩, hd7, hk7⟩
        have hs6 := HD6.out.2.1.other hk7 HDB.out.1
        have hc1 := hs6.row.cell 2
        have hf1 := hs6.row.free 2
        obtain ⟨A1, A2, A3⟩ := hs6.set (s' := { s with min := nn }) hd7 HDB.out.2 2 (.int .i64 (nn : Int)) rfl rfl
        obtain ⟨W7, hW7⟩ : ∃ W, w6.setCell ⟨b, 2, none⟩ (.int .i64 (nn : Int)) = W := ⟨_, rfl⟩
        rw [hW7] at A1 A2 A3
        have H7 := hid (And.intro A1 (And.intro A2 (And.intro hnv (kept_b (kept_s (kept_s (kept_0 w g b hv) HK5.out) hk7) A3))))
        have HW7 := hid (And.intro hW7 hnb)
        clear hs6 A1 A2 A3 hW7 hnv hd7 hk7 hnb
        go_upto_region 15 with fail
        try change Code.wp _ _ _ _ (w6.setCell ⟨b, 2, none⟩ (.int .i64 (nn : Int)))
        rw [HW7.out.1]
        clear hc1 hf1
        have hc2 : W7.cell? ⟨b, 2, none⟩ = some (.int .i64 (nn : Int)) := H7.out.2.1.row.cell 2
        go_wp2_with fail
        refine (docNumber_any g D nn 2147483648 T (numM 0 2147483648 q) W7 H7.out.1 HW7.out.2 (by decide)).mono ?_
        rintro e w9 ⟨⟨n2, rfl, hnb2, hnv2⟩, hd9, hk9⟩
        have hs9 := H7.out.2.1.other hk9 HDB.out.1
        have hc1 := hs9.row.cell 3
        have hf1 := hs9.row.free 3
        obtain ⟨A1, A2, A3⟩ := hs9.set (s' := { s with min := nn, max := n2 }) hd9 HDB.out.2 3 (.int .i64 (n2 : Int)) rfl rfl
        obtain ⟨W10, hW10⟩ : ∃ W, w9.setCell ⟨b, 3, none⟩ (.int .i64 (n2 : Int)) = W := ⟨_, rfl⟩
        rw [hW10] at A1 A2 A3
        have hcode : (numM 0 2147483648 q).code = 0 ∨ numM nn 2147483648 (numM 0 2147483648 q) = numM (valD (hdW q)) 2147483648 (numM 0 2147483648 q) := by
          by_cases e : (numM 0 2147483648 q).code = 0
          · exact .inl e
          · right; rw [numM_off e, numM_off e]
        have heq : numM nn 2147483648 (numM 0 2147483648 q) = numM (valD (hdW q)) 2147483648 (numM 0 2147483648 q) := by
          rcases hcode with e | e
          · rw [H7.out.2.2.1 e]
          · exact e
        rw [heq] at A1 hnv2
        have H10 := hid (And.intro A1 (And.intro A2 (And.intro hnv2 (kept_b (kept_s H7.out.2.2.2 hk9) A3))))
        have HW10 := hid hW10
        clear hs9 A1 A2 A3 hW10 hnv2 hd9 hk9 hnb2 hc2 hcode heq
        go_wp2_with fail
        try change Calls _ _ _ (w9.setCell ⟨b, 3, none⟩ (.int .i64 (n2 : Int))) _
        rw [HW10.out]
        clear hc1 hf1
        refine (docMust_any g D T [59] (numM (valD (hdW q)) 2147483648 (numM 0 2147483648 q)) W10 H10.out.1).mono ?_
        rintro e w8 ⟨⟨u8, rfl⟩, hd8, hk8⟩
        have H8 : Hid (Dc w8 g D T ((ruleM s seen p).1, (ruleM s seen p).2.2).2 ∧ Ds w8 b hv { s with min := nn, max := n2 } ∧ (((ruleM s seen p).1, (ruleM s seen p).2.2).2.code = 0 → { s with min := nn, max := n2 } = ((ruleM s seen p).1, (ruleM s seen p).2.2).1) ∧ Moves w hv hv ∧ Kept (fun k => k = g ∨ Fb b hv k) w w8) := by
          rw [HRN.out]
          refine ⟨hd8, H10.out.2.1.other hk8 HDB.out.1, fun e => ?_, Moves.refl _ _, kept_s H10.out.2.2.2 hk8⟩
          have e0 := (fol_exp [59] (numM (valD (hdW q)) 2147483648 (numM 0 2147483648 q))).ok e
          have e1 : (numM 0 2147483648 q).code = 0 := (fol_num _ _ _).ok e0
          show _ = { s with min := valD (hdW q), max := valD (hdW (numM 0 2147483648 q)) }
          rw [H7.out.2.2.1 e1, H10.out.2.2.1 e0]
        clear hd8 hk8
        obtain ⟨W9, hW9⟩ : ∃ W, w8.alloc (.cells #[strV wTtl] 9) = W := ⟨_, rfl⟩
        have hb9 : Below w8.heap.size w8 W9 := by rw [← hW9]; exact below_alloc _ _
        have r9 : rowIs W9 w8.heap.size #[strV wTtl] 9 := by rw [← hW9]; exact rowIs_new _ _ _
        have ho9 : W9.ownsRow 0 9 1 (.slice av n cv) n (L.map strV) := by
          have := rule_seen HV.out.1 HV.out.2 HDB.out.1 H8.out.2.2.2.2
          rw [HN.out.1] at this
          exact ownsRow_kept this (Kept.of_below (X := fun _ => False) hb9) (fun _ _ h => h)
        have hl9 : n + 1 < 4294967296 := by have := HN.out.2; omega
        have HB9 := hid hb9
        clear hb9
        go_wp2_with (at_builtin; go_loud (go_must (refine wpList_append_genD W9 rfl _ _ 62 rfl 0 9 Tryz.underlying62 infoStr rfl (by decide) (by decide) (v := .slice av n cv) rfl ho9 ⟨w8.heap.size, 0, none⟩ 1 1 [strV wTtl] rfl (fun j u hj => by rw [addAt2, Nat.zero_add, r9.cell j]; simpa using hj) (fun u hu => by rw [List.mem_singleton] at hu; subst hu; rfl) rfl hl9 (Nat.zero_le _) ?_); intro v10 w10 ho10 hg10 hi10; have HE10 := hid (rule_end (r := ((ruleM s seen p).1, (ruleM s seen p).2.2)) HN.out.1 HV.out.1 HV.out.2 HDB.out.1 HDB.out.2 H8.out.1 H8.out.2.1 H8.out.2.2.1 H8.out.2.2.2.1 H8.out.2.2.2.2 HB9.out ho10 hg10 hi10)))
        go_ret
        rw [← HY.out]
        exact HE10.out
  by_cases c3 : y = wKey
  · subst c3
    have z0 : (wKey == [111, 114, 105, 103, 105, 110]) = false := rfl
    have n0 : (wKey != [111, 114, 105, 103, 105, 110]) = true := rfl
    have z1 : (wKey == [116, 116, 108]) = false := rfl
    have n1 : (wKey != [116, 116, 108]) = true := rfl
    have z2 : (wKey == [107, 101, 121]) = true := rfl
    have n2 : (wKey != [107, 101, 121]) = false := rfl
    have z3 : (wKey == [107, 101, 101, 112]) = false := rfl
    have n3 : (wKey != [107, 101, 101, 112]) = true := rfl
    have HS0 := hid (And.intro (HD.out.below HB1.out) (Kept.of_below (X := fun k => k = g) HB1.out))
    go_wp2_with fail
    go_loopw [8] (fun z wr => ∃ (k : Nat), z = .int .i64 (k : Int) ∧ k ≤ n ∧ Dc wr g D T (chk (!((L.take k).contains wKey)) 31 p) ∧ Kept (fun k => k = g) w wr) (fun z _ => n - (intOf z).toNat)
    case atStart => exact ⟨0, rfl, Nat.zero_le _, (by rw [List.take_zero]; show Dc _ g D T (chk true 31 p); rw [chk_true]; exact HS0.out.1), HS0.out.2⟩
    case round =>
      obtain ⟨k, rfl, hk, hd, hkk⟩ := hrel
      have HDK := hid (And.intro hd hkk)
      by_cases hlt : k < n
      · obtain ⟨x, hx⟩ : ∃ x, L[k]? = some x := by
          have := HN.out.1
          exact ⟨L[k]'(by omega), List.getElem?_eq_getElem (by omega)⟩
        have hvr := ownsRow_kept HV.out.1 hkk (fun j hj e => by have := (HV.out.2 j hj).1; have := HDB.out.1; omega)
        obtain ⟨av', cv', e1, f1, -⟩ := hvr.reads
        injection e1 with e1 e2 e3
        clear e2 e3
        subst e1
        obtain ⟨b6, o6, g6, i6⟩ := f1 k (strV x) (by rw [List.getElem?_map, hx]; rfl)
        subst g6
        have d6 : wr.cell? ⟨b6, o6 + k, none⟩ = some (strV x) := i6
        have hkI : (k : Int) < (n : Int) := by omega
        have hk0 : (0 : Int) ≤ (k : Int) := by omega
        have hkw : IntKind.i64.wrap ((k : Int) + 1) = (k : Int) + 1 := IntWalk.i64_in _ (by have := HN.out.2; omega)
        have hct : (L.take (k + 1)).contains wKey = ((L.take k).contains wKey || x == wKey) := by rw [List.take_add_one, hx]; exact contains_snoc
        have HCT := hid hct
        clear hd hkk hvr f1 i6 hx hct
        by_cases hxy : x = wKey
        · have zx : (x == wKey) = true := by simpa using hxy
          have HZX := hid zx
          clear hxy
          go_wp2_with fail
          refine (docFail_any g D 31 T _ wr HDK.out.1 (by decide)).mono ?_
          rintro e w3 ⟨⟨u3, rfl⟩, hd3, hk3⟩
          rw [chk_twice, show (false && !((L.take k).contains wKey)) = !((L.take (k + 1)).contains wKey) by rw [HCT.out, HZX.out]; simp] at hd3
          have H3 := hid (And.intro hd3 (HDK.out.2.trans hk3 (fun k h _ => h)))
          clear hd3 hk3
          go_wp2_with fail
          go_roundw
          case rel => exact ⟨k + 1, by go_num, hlt, H3.out.1, H3.out.2⟩
          case measure => simp [intOf]; omega
        · have zx : (x == wKey) = false := by simpa using hxy
          have H3 := hid (show Dc wr g D T (chk (!((L.take (k + 1)).contains wKey)) 31 p) by rw [HCT.out, zx, Bool.or_false]; exact HDK.out.1)
          clear hxy
          go_wp2_with fail
          go_roundw
          case rel => exact ⟨k + 1, by go_num, hlt, H3.out, HDK.out.2⟩
          case measure => simp [intOf]; omega
      · have hkI : ¬ (k : Int) < (n : Int) := by omega
        have HQ0 := hid (show Dc wr g D T (chk (!(L.contains wKey)) 31 p) by
          have := HDK.out.1
          rwa [List.take_of_length_le (by have := HN.out.1; omega)] at this)
        clear hd hkk
        go_wp2_with fail
        refine (docStep_any g D T _ wr HQ0.out).mono ?_
        rintro e w5 ⟨⟨u5, rfl⟩, hd5, hk5⟩
        have HD5 := hid hd5
        have HK5 := hid (HDK.out.2.trans hk5 (fun k h _ => h))
        clear hd5 hk5
        have hrn := rule_is (s := s) (seen := seen) (p := p) (by rw [← HY.out]; rfl)
        rw [← HY.out] at hrn
        obtain ⟨q, hq⟩ : ∃ q, onceM seen p = q := ⟨_, rfl⟩
        have hd6 : Dc w5 g D T q := by
          rw [← hq]; unfold onceM; rw [← HY.out, ← HSEE.out.1]; exact HD5.out
        have hq0 : q.code = 0 → seen.contains wKey = false := fun e => by
          rw [← hq] at e
          unfold onceM at e
          rw [← HY.out] at e
          have := (chk_ok (by decide) (show (chk (!(seen.contains wKey)) 31 p).code = 0 from e)).2.1
          simpa using this
        rw [hq] at hrn
        have hs5 := HS.out.other HK5.out HDB.out.1
        have HD6 := hid (And.intro hd6 (And.intro hs5 hq0))
        have HRN := hid hrn
        clear hrn hq hd6 hs5 hq0
        go_wp2_with fail
        refine (docKey_any g D b T q hv s w5 HD6.out.1 HD6.out.2.1 HDB.out.2 (fun e => HSEE.out.2 (HD6.out.2.2 e))).mono ?_
        rintro e w6 ⟨⟨u6, rfl⟩, hd7, hv7, s7, hs7, hs70, hm7, hk7⟩
        have H7 := hid (And.intro hd7 (And.intro hs7 (And.intro hs70 (And.intro (show Moves w hv hv7 from fun k e => (hm7 k e).imp id (fun h => Nat.le_trans HK5.out.size h)) ((kept_s (kept_0 w g b hv) HK5.out).trans hk7 (fun k h _ => h))))))
        clear hd7 hs7 hs70 hm7 hk7
        go_wp2_with fail
        refine (docMust_any g D T [59] (keyM s q).2 w6 H7.out.1).mono ?_
        rintro e w8 ⟨⟨u8, rfl⟩, hd8, hk8⟩
        have H8 : Hid (Dc w8 g D T ((ruleM s seen p).1, (ruleM s seen p).2.2).2 ∧ Ds w8 b hv7 s7 ∧ (((ruleM s seen p).1, (ruleM s seen p).2.2).2.code = 0 → s7 = ((ruleM s seen p).1, (ruleM s seen p).2.2).1) ∧ Moves w hv hv7 ∧ Kept (fun k => k = g ∨ Fb b hv k) w w8) := by
          rw [HRN.out]
          refine ⟨hd8, H7.out.2.1.other hk8 HDB.out.1, fun e => ?_, H7.out.2.2.2.1, kept_s H7.out.2.2.2.2 hk8⟩
          have e0 := (fol_exp [59] (keyM s q).2).ok e
          show _ = (keyM s q).1
          exact H7.out.2.2.1 e0
        clear hd8 hk8
        obtain ⟨W9, hW9⟩ : ∃ W, w8.alloc (.cells #[strV wKey] 9) = W := ⟨_, rfl⟩
        have hb9 : Below w8.heap.size w8 W9 := by rw [← hW9]; exact below_alloc _ _
        have r9 : rowIs W9 w8.heap.size #[strV wKey] 9 := by rw [← hW9]; exact rowIs_new _ _ _
        have ho9 : W9.ownsRow 0 9 1 (.slice av n cv) n (L.map strV) := by
          have := rule_seen HV.out.1 HV.out.2 HDB.out.1 H8.out.2.2.2.2
          rw [HN.out.1] at this
          exact ownsRow_kept this (Kept.of_below (X := fun _ => False) hb9) (fun _ _ h => h)
        have hl9 : n + 1 < 4294967296 := by have := HN.out.2; omega
        have HB9 := hid hb9
        clear hb9
        go_wp2_with (at_builtin; go_loud (go_must (refine wpList_append_genD W9 rfl _ _ 62 rfl 0 9 Tryz.underlying62 infoStr rfl (by decide) (by decide) (v := .slice av n cv) rfl ho9 ⟨w8.heap.size, 0, none⟩ 1 1 [strV wKey] rfl (fun j u hj => by rw [addAt2, Nat.zero_add, r9.cell j]; simpa using hj) (fun u hu => by rw [List.mem_singleton] at hu; subst hu; rfl) rfl hl9 (Nat.zero_le _) ?_); intro v10 w10 ho10 hg10 hi10; have HE10 := hid (rule_end (r := ((ruleM s seen p).1, (ruleM s seen p).2.2)) HN.out.1 HV.out.1 HV.out.2 HDB.out.1 HDB.out.2 H8.out.1 H8.out.2.1 H8.out.2.2.1 H8.out.2.2.2.1 H8.out.2.2.2.2 HB9.out ho10 hg10 hi10)))
        go_ret
        rw [← HY.out]
        exact HE10.out
  by_cases c4 : y = wKeep
  · subst c4
    have z0 : (wKeep == [111, 114, 105, 103, 105, 110]) = false := rfl
    have n0 : (wKeep != [111, 114, 105, 103, 105, 110]) = true := rfl
    have z1 : (wKeep == [116, 116, 108]) = false := rfl
    have n1 : (wKeep != [116, 116, 108]) = true := rfl
    have z2 : (wKeep == [107, 101, 121]) = false := rfl
    have n2 : (wKeep != [107, 101, 121]) = true := rfl
    have z3 : (wKeep == [107, 101, 101, 112]) = true := rfl
    have n3 : (wKeep != [107, 101, 101, 112]) = false := rfl
    have HS0 := hid (And.intro (HD.out.below HB1.out) (Kept.of_below (X := fun k => k = g) HB1.out))
    go_wp2_with fail
    go_loopw [8] (fun z wr => ∃ (k : Nat), z = .int .i64 (k : Int) ∧ k ≤ n ∧ Dc wr g D T (chk (!((L.take k).contains wKeep)) 31 p) ∧ Kept (fun k => k = g) w wr) (fun z _ => n - (intOf z).toNat)
    case atStart => exact ⟨0, rfl, Nat.zero_le _, (by rw [List.take_zero]; show Dc _ g D T (chk true 31 p); rw [chk_true]; exact HS0.out.1), HS0.out.2⟩
    case round =>
      obtain ⟨k, rfl, hk, hd, hkk⟩ := hrel
      have HDK := hid (And.intro hd hkk)
      by_cases hlt : k < n
      · obtain ⟨x, hx⟩ : ∃ x, L[k]? = some x := by
          have := HN.out.1
          exact ⟨L[k]'(by omega), List.getElem?_eq_getElem (by omega)⟩
        have hvr := ownsRow_kept HV.out.1 hkk (fun j hj e => by have := (HV.out.2 j hj).1; have := HDB.out.1; omega)
        obtain ⟨av', cv', e1, f1, -⟩ := hvr.reads
        injection e1 with e1 e2 e3
        clear e2 e3
        subst e1
        obtain ⟨b6, o6, g6, i6⟩ := f1 k (strV x) (by rw [List.getElem?_map, hx]; rfl)
        subst g6
        have d6 : wr.cell? ⟨b6, o6 + k, none⟩ = some (strV x) := i6
        have hkI : (k : Int) < (n : Int) := by omega
        have hk0 : (0 : Int) ≤ (k : Int) := by omega
        have hkw : IntKind.i64.wrap ((k : Int) + 1) = (k : Int) + 1 := IntWalk.i64_in _ (by have := HN.out.2; omega)
        have hct : (L.take (k + 1)).contains wKeep = ((L.take k).contains wKeep || x == wKeep) := by rw [List.take_add_one, hx]; exact contains_snoc
        have HCT := hid hct
        clear hd hkk hvr f1 i6 hx hct
        by_cases hxy : x = wKeep
        · have zx : (x == wKeep) = true := by simpa using hxy
          have HZX := hid zx
          clear hxy
          go_wp2_with fail
          refine (docFail_any g D 31 T _ wr HDK.out.1 (by decide)).mono ?_
          rintro e w3 ⟨⟨u3, rfl⟩, hd3, hk3⟩
          rw [chk_twice, show (false && !((L.take k).contains wKeep)) = !((L.take (k + 1)).contains wKeep) by rw [HCT.out, HZX.out]; simp] at hd3
          have H3 := hid (And.intro hd3 (HDK.out.2.trans hk3 (fun k h _ => h)))
          clear hd3 hk3
          go_wp2_with fail
          go_roundw
          case rel => exact ⟨k + 1, by go_num, hlt, H3.out.1, H3.out.2⟩
          case measure => simp [intOf]; omega
        · have zx : (x == wKeep) = false := by simpa using hxy
          have H3 := hid (show Dc wr g D T (chk (!((L.take (k + 1)).contains wKeep)) 31 p) by rw [HCT.out, zx, Bool.or_false]; exact HDK.out.1)
          clear hxy
          go_wp2_with fail
          go_roundw
          case rel => exact ⟨k + 1, by go_num, hlt, H3.out, HDK.out.2⟩
          case measure => simp [intOf]; omega
      · have hkI : ¬ (k : Int) < (n : Int) := by omega
        have HQ0 := hid (show Dc wr g D T (chk (!(L.contains wKeep)) 31 p) by
          have := HDK.out.1
          rwa [List.take_of_length_le (by have := HN.out.1; omega)] at this)
        clear hd hkk
        go_wp2_with fail
        refine (docStep_any g D T _ wr HQ0.out).mono ?_
        rintro e w5 ⟨⟨u5, rfl⟩, hd5, hk5⟩
        have HD5 := hid hd5
        have HK5 := hid (HDK.out.2.trans hk5 (fun k h _ => h))
        clear hd5 hk5
        have hrn := rule_is (s := s) (seen := seen) (p := p) (by rw [← HY.out]; rfl)
        rw [← HY.out] at hrn
        obtain ⟨q, hq⟩ : ∃ q, onceM seen p = q := ⟨_, rfl⟩
        have hd6 : Dc w5 g D T q := by
          rw [← hq]; unfold onceM; rw [← HY.out, ← HSEE.out.1]; exact HD5.out
        have hq0 : q.code = 0 → seen.contains wKeep = false := fun e => by
          rw [← hq] at e
          unfold onceM at e
          rw [← HY.out] at e
          have := (chk_ok (by decide) (show (chk (!(seen.contains wKeep)) 31 p).code = 0 from e)).2.1
          simpa using this
        rw [hq] at hrn
        have hs5 := HS.out.other HK5.out HDB.out.1
        have HD6 := hid (And.intro hd6 (And.intro hs5 hq0))
        have HRN := hid hrn
        clear hrn hq hd6 hs5 hq0
        go_wp2_with fail
        refine (docKeep_any g D b T q hv s w5 HD6.out.1 HD6.out.2.1 HDB.out.2).mono ?_
        rintro e w6 ⟨⟨u6, rfl⟩, hd7, hv7, s7, hs7, hs70, hm7, hk7⟩
        have H7 := hid (And.intro hd7 (And.intro hs7 (And.intro hs70 (And.intro (show Moves w hv hv7 from fun k e => (hm7 k e).imp id (fun h => Nat.le_trans HK5.out.size h)) ((kept_s (kept_0 w g b hv) HK5.out).trans hk7 (fun k h _ => h))))))
        clear hd7 hs7 hs70 hm7 hk7
        go_wp2_with fail
        refine (docMust_any g D T [59] (keepM s q).2 w6 H7.out.1).mono ?_
        rintro e w8 ⟨⟨u8, rfl⟩, hd8, hk8⟩
        have H8 : Hid (Dc w8 g D T ((ruleM s seen p).1, (ruleM s seen p).2.2).2 ∧ Ds w8 b hv7 s7 ∧ (((ruleM s seen p).1, (ruleM s seen p).2.2).2.code = 0 → s7 = ((ruleM s seen p).1, (ruleM s seen p).2.2).1) ∧ Moves w hv hv7 ∧ Kept (fun k => k = g ∨ Fb b hv k) w w8) := by
          rw [HRN.out]
          refine ⟨hd8, H7.out.2.1.other hk8 HDB.out.1, fun e => ?_, H7.out.2.2.2.1, kept_s H7.out.2.2.2.2 hk8⟩
          have e0 := (fol_exp [59] (keepM s q).2).ok e
          show _ = (keepM s q).1
          exact H7.out.2.2.1 e0
        clear hd8 hk8
        obtain ⟨W9, hW9⟩ : ∃ W, w8.alloc (.cells #[strV wKeep] 9) = W := ⟨_, rfl⟩
        have hb9 : Below w8.heap.size w8 W9 := by rw [← hW9]; exact below_alloc _ _
        have r9 : rowIs W9 w8.heap.size #[strV wKeep] 9 := by rw [← hW9]; exact rowIs_new _ _ _
        have ho9 : W9.ownsRow 0 9 1 (.slice av n cv) n (L.map strV) := by
          have := rule_seen HV.out.1 HV.out.2 HDB.out.1 H8.out.2.2.2.2
          rw [HN.out.1] at this
          exact ownsRow_kept this (Kept.of_below (X := fun _ => False) hb9) (fun _ _ h => h)
        have hl9 : n + 1 < 4294967296 := by have := HN.out.2; omega
        have HB9 := hid hb9
        clear hb9
        go_wp2_with (at_builtin; go_loud (go_must (refine wpList_append_genD W9 rfl _ _ 62 rfl 0 9 Tryz.underlying62 infoStr rfl (by decide) (by decide) (v := .slice av n cv) rfl ho9 ⟨w8.heap.size, 0, none⟩ 1 1 [strV wKeep] rfl (fun j u hj => by rw [addAt2, Nat.zero_add, r9.cell j]; simpa using hj) (fun u hu => by rw [List.mem_singleton] at hu; subst hu; rfl) rfl hl9 (Nat.zero_le _) ?_); intro v10 w10 ho10 hg10 hi10; have HE10 := hid (rule_end (r := ((ruleM s seen p).1, (ruleM s seen p).2.2)) HN.out.1 HV.out.1 HV.out.2 HDB.out.1 HDB.out.2 H8.out.1 H8.out.2.1 H8.out.2.2.1 H8.out.2.2.2.1 H8.out.2.2.2.2 HB9.out ho10 hg10 hi10)))
        go_ret
        rw [← HY.out]
        exact HE10.out
  have HNR := hid (show isRule (hdW p) = false by
    rw [← HY.out]; unfold isRule
    rw [show (y == wOrigin) = false from by simpa using c1, show (y == wTtl) = false from by simpa using c2, show (y == wKey) = false from by simpa using c3, show (y == wKeep) = false from by simpa using c4]; rfl)
  have z0 : (y == [111, 114, 105, 103, 105, 110]) = false := by have hh : ¬ y = [111, 114, 105, 103, 105, 110] := c1; simpa using hh
  have n0 : (y != [111, 114, 105, 103, 105, 110]) = true := by have hh : ¬ y = [111, 114, 105, 103, 105, 110] := c1; simpa using hh
  have z1 : (y == [116, 116, 108]) = false := by have hh : ¬ y = [116, 116, 108] := c2; simpa using hh
  have n1 : (y != [116, 116, 108]) = true := by have hh : ¬ y = [116, 116, 108] := c2; simpa using hh
  have z2 : (y == [107, 101, 121]) = false := by have hh : ¬ y = [107, 101, 121] := c3; simpa using hh
  have n2 : (y != [107, 101, 121]) = true := by have hh : ¬ y = [107, 101, 121] := c3; simpa using hh
  have z3 : (y == [107, 101, 101, 112]) = false := by have hh : ¬ y = [107, 101, 101, 112] := c4; simpa using hh
  have n3 : (y != [107, 101, 101, 112]) = true := by have hh : ¬ y = [107, 101, 101, 112] := c4; simpa using hh
  clear c1 c2 c3 c4
  go_wp2_with fail
  refine (docFail_any g D 30 T p w1 (HD.out.below HB1.out) (by decide)).mono ?_
  rintro e w2 ⟨⟨u2, rfl⟩, hd2, hk2⟩
  have HS0 := hid (And.intro hd2 ((Kept.of_below (X := fun k => k = g) HB1.out).trans hk2 (fun k h _ => h)))
  clear hd2 hk2
  go_wp2_with fail
  go_loopw [8] (fun z wr => ∃ (k : Nat), z = .int .i64 (k : Int) ∧ k ≤ n ∧ Dc wr g D T (chk (!((L.take k).contains y)) 31 (chk false 30 p)) ∧ Kept (fun k => k = g) w wr) (fun z _ => n - (intOf z).toNat)
  case atStart => exact ⟨0, rfl, Nat.zero_le _, (by rw [List.take_zero]; show Dc _ g D T (chk true 31 (chk false 30 p)); rw [chk_true]; exact HS0.out.1), HS0.out.2⟩
  case round =>
    obtain ⟨k, rfl, hk, hd, hkk⟩ := hrel
    have HDK := hid (And.intro hd hkk)
    by_cases hlt : k < n
    · obtain ⟨x, hx⟩ : ∃ x, L[k]? = some x := by
        have := HN.out.1
        exact ⟨L[k]'(by omega), List.getElem?_eq_getElem (by omega)⟩
      have hvr := ownsRow_kept HV.out.1 hkk (fun j hj e => by have := (HV.out.2 j hj).1; have := HDB.out.1; omega)
      obtain ⟨av', cv', e1, f1, -⟩ := hvr.reads
      injection e1 with e1 e2 e3
      clear e2 e3
      subst e1
      obtain ⟨b6, o6, g6, i6⟩ := f1 k (strV x) (by rw [List.getElem?_map, hx]; rfl)
      subst g6
      have d6 : wr.cell? ⟨b6, o6 + k, none⟩ = some (strV x) := i6
      have hkI : (k : Int) < (n : Int) := by omega
      have hk0 : (0 : Int) ≤ (k : Int) := by omega
      have hkw : IntKind.i64.wrap ((k : Int) + 1) = (k : Int) + 1 := IntWalk.i64_in _ (by have := HN.out.2; omega)
      have hct : (L.take (k + 1)).contains y = ((L.take k).contains y || x == y) := by rw [List.take_add_one, hx]; exact contains_snoc
      have HCT := hid hct
      clear hd hkk hvr f1 i6 hx hct
      by_cases hxy : x = y
      · have zx : (x == y) = true := by simpa using hxy
        have HZX := hid zx
        clear hxy
        go_wp2_with fail
        refine (docFail_any g D 31 T _ wr HDK.out.1 (by decide)).mono ?_
        rintro e w3 ⟨⟨u3, rfl⟩, hd3, hk3⟩
        rw [chk_twice, show (false && !((L.take k).contains y)) = !((L.take (k + 1)).contains y) by rw [HCT.out, HZX.out]; simp] at hd3
        have H3 := hid (And.intro hd3 (HDK.out.2.trans hk3 (fun k h _ => h)))
        clear hd3 hk3
        go_wp2_with fail
        go_roundw
        case rel => exact ⟨k + 1, by go_num, hlt, H3.out.1, H3.out.2⟩
        case measure => simp [intOf]; omega
      · have zx : (x == y) = false := by simpa using hxy
        have H3 := hid (show Dc wr g D T (chk (!((L.take (k + 1)).contains y)) 31 (chk false 30 p)) by rw [HCT.out, zx, Bool.or_false]; exact HDK.out.1)
        clear hxy
        go_wp2_with fail
        go_roundw
        case rel => exact ⟨k + 1, by go_num, hlt, H3.out, HDK.out.2⟩
        case measure => simp [intOf]; omega
    · have hkI : ¬ (k : Int) < (n : Int) := by omega
      have HQ0 := hid (show Dc wr g D T (chk (!(L.contains y)) 31 (chk false 30 p)) by
        have := HDK.out.1
        rwa [List.take_of_length_le (by have := HN.out.1; omega)] at this)
      clear hd hkk
      go_wp2_with fail
      refine (docStep_any g D T _ wr HQ0.out).mono ?_
      rintro e w5 ⟨⟨u5, rfl⟩, hd5, hk5⟩
      have HD5 := hid hd5
      have HK5 := hid (HDK.out.2.trans hk5 (fun k h _ => h))
      clear hd5 hk5
      have hcd : (chk false 30 p).code ≠ 0 := by rw [chk_no HC.out]; exact (by decide : (30 : Nat) ≠ 0)
      have HCD := hid hcd
      have HD6 := hid (HD5.out.off (q := chk false 30 p) (by show (chk _ 31 (chk false 30 p)).code ≠ 0; exact chk_code hcd) (by show _ = (chk _ 31 (chk false 30 p)).code; rw [chk_off hcd]) (by show _ = (chk _ 31 (chk false 30 p)).pos; rw [chk_off hcd]))
      clear hcd
      go_wp2_with fail
      refine (docMust_any g D T [59] (chk false 30 p) w5 HD6.out).mono ?_
      rintro e w8 ⟨⟨u8, rfl⟩, hd8, hk8⟩
      have hd8' : Dc w8 g D T (chk false 30 p) := hd8.off (by unfold expM; rw [chk_off HCD.out]; exact HCD.out) (by unfold expM; rw [chk_off HCD.out]; rfl) (by unfold expM; rw [chk_off HCD.out]; rfl)
      have hk9 := HK5.out.trans hk8 (fun k h _ => h)
      have hrn := rule_not (s := s) (seen := seen) (p := p) HNR.out
      have H8 : Hid (Dc w8 g D T ((ruleM s seen p).1, (ruleM s seen p).2.2).2 ∧ Ds w8 b hv s ∧ (((ruleM s seen p).1, (ruleM s seen p).2.2).2.code = 0 → s = ((ruleM s seen p).1, (ruleM s seen p).2.2).1) ∧ Moves w hv hv ∧ Kept (fun k => k = g ∨ Fb b hv k) w w8) := by
        rw [hrn]
        exact ⟨hd8', HS.out.other hk9 HDB.out.1, fun _ => rfl, Moves.refl _ _, kept_s (kept_0 w g b hv) hk9⟩
      clear hd8 hd8' hk8 hk9 hrn
      obtain ⟨W9, hW9⟩ : ∃ W, w8.alloc (.cells #[strV y] 9) = W := ⟨_, rfl⟩
      have hb9 : Below w8.heap.size w8 W9 := by rw [← hW9]; exact below_alloc _ _
      have r9 : rowIs W9 w8.heap.size #[strV y] 9 := by rw [← hW9]; exact rowIs_new _ _ _
      have ho9 : W9.ownsRow 0 9 1 (.slice av n cv) n (L.map strV) := by
        have := rule_seen HV.out.1 HV.out.2 HDB.out.1 H8.out.2.2.2.2
        rw [HN.out.1] at this
        exact ownsRow_kept this (Kept.of_below (X := fun _ => False) hb9) (fun _ _ h => h)
      have hl9 : n + 1 < 4294967296 := by have := HN.out.2; omega
      have HB9 := hid hb9
      clear hb9
      go_wp2_with (at_builtin; go_loud (go_must (refine wpList_append_genD W9 rfl _ _ 62 rfl 0 9 Tryz.underlying62 infoStr rfl (by decide) (by decide) (v := .slice av n cv) rfl ho9 ⟨w8.heap.size, 0, none⟩ 1 1 [strV y] rfl (fun j u hj => by rw [addAt2, Nat.zero_add, r9.cell j]; simpa using hj) (fun u hu => by rw [List.mem_singleton] at hu; subst hu; rfl) rfl hl9 (Nat.zero_le _) ?_); intro v10 w10 ho10 hg10 hi10; have HE10 := hid (rule_end (r := ((ruleM s seen p).1, (ruleM s seen p).2.2)) HN.out.1 HV.out.1 HV.out.2 HDB.out.1 HDB.out.2 H8.out.1 H8.out.2.1 H8.out.2.2.1 H8.out.2.2.2.1 H8.out.2.2.2.2 HB9.out ho10 hg10 hi10)))
      go_ret
      rw [← HY.out]
      exact HE10.out
end Go.Proofs.YtenijpcjemdhfaaGreatDoor

/-
  The document's reader: header, key.
-/
import Derived.Test.YtenijpcjemdhfaaGreatDoorP10dRef9O
import Derived.Test.YtenijpcjemdhfaaGreatDoorP10dRef9R
import Derived.Test.YtenijpcjemdhfaaGreatDoorHeldA
namespace Go.Pantry
open Go.RowKit
theorem wpList_append_genD {P : Program} {ops : Array Oper} {rest : List Oper} (w : World) {o : Oper} {a : Act} {Q : Exit → Act → World → Prop} (hgd : o.guard = none) (s x : Operand) (t : TypeId)
    (ho : o.op = .call { callee := .builtin .append, args := #[s, x], argTypes := #[t, t] })
    (B : Nat) (e : TypeId) {z : Value} {sz bytes : Nat} (ht : P.underlying t = some (.slice e)) (hi : (P.info? e).map (fun i => (i.zero, i.size, i.bytes)) = some (some z, sz, bytes)) (hzs : z.cells.size = sz) (hsz : 0 < sz) (hby : bytes ≤ 4096)
    {v : Value} {n : Nat} {xs : List Value} (hs : a.eval s = v) (hown : w.ownsRow B e sz v n xs)
    (ad : Addr) (m c : Nat) (news : List Value) (hl : news.length = m * sz) (hnews : ∀ (j : Nat) u, news[j]? = some u → w.cell? (ad.add j) = some u) (h1 : ∀ u ∈ news, u.oneCell' = true)
    (hx : a.eval x = .slice (some ad) m c) (hn : n + m < 4294967296) (hB : B ≤ w.heap.size)
    (h : ∀ v' w', w'.ownsRow B e sz v' (n + m) (xs ++ news) → w.grownBy w' v.ownBlock → In (fun k => v.ownBlock = some k ∨ w.heap.size ≤ k) v' → wpList P ops Q rest (a.put o.dst v') w') :
    wpList P ops Q (o :: rest) a w :=
  wpList_plain hgd fun _ hK => wp_append_gen w s x t ho B e ht hi hzs hsz hby hs hown ad m c news hl hnews h1 hx hn hB (fun v' w' a1 a2 a3 => hK _ _ (h v' w' a1 a2 a3))
/-- one word of a key that is no first query -/
def headerM (s : SiteM) (p : Ps) : SiteM × Ps :=
  if hdW p == wHeader then ({ s with heads := s.heads ++ [hdW (stp p)] }, nameM s.heads (stp p)) else (s, chk false 30 p)
theorem nameM_bad {heads : List (List UInt8)} {p : Ps} (h0 : p.code = 0) (h : mayM heads (hdW p) = false) : nameM heads p = stp (chk false 30 p) := by
  unfold nameM
  rw [h, chk_off (show (chk false 30 p).code ≠ 0 by rw [chk_no h0]; exact (by decide : (30 : Nat) ≠ 0))]
theorem nameM_many {heads : List (List UInt8)} {p : Ps} (h : mayM heads (hdW p) = true) (h4 : heads.length = 4) : nameM heads p = stp (chk false 32 p) := by
  unfold nameM
  rw [h, chk_true, h4]
  rfl
theorem nameM_good {heads : List (List UInt8)} {p : Ps} (h : mayM heads (hdW p) = true) (h4 : heads.length < 4) : nameM heads p = stp p := by
  unfold nameM
  rw [h, chk_true, decide_eq_true h4, chk_true]
end Go.Pantry
namespace Go.Proofs.YtenijpcjemdhfaaGreatDoor
open Go.RowKit Go.Pantry

set_option maxRecDepth 8000 in
set_option maxHeartbeats 4000000 in
theorem docHeader_any (g D b : Nat) (T : List UInt8) (p : Ps) (hv : Value) (s : SiteM) (w : World) (h : Dc w g D T p) (hs : Ds w b hv s) (hDb : D ≤ b) (h0 : p.code = 0) (h4 : s.heads.length ≤ 4) :
    Calls Tryz.prog 106 #[.pointer (some ⟨g, 0, none⟩), .pointer (some ⟨b, 0, none⟩)] w (DsPost w g D b T hv (headerM s p)) := by
  have HS := hid hs
  have HDB := hid (show g < b ∧ D ≤ b from ⟨Nat.lt_of_lt_of_le h.lt hDb, hDb⟩)
  have CM := hid (docMust_any g D T wHeader p w h)
  have H0 := hid h0
  have H4 := hid h4
  clear h hs hDb h4
  go_enter Tryz.func106, Tryz.ntmps106
  go_wp2_with fail
  refine CM.out.mono ?_
  rintro e w1 ⟨⟨u1, rfl⟩, hd1, hk1⟩
  by_cases hh : hdW p = wHeader
  rotate_left
  · have he : expM wHeader p = stp (chk false 30 p) := by
      unfold expM
      have : (hdW p == wHeader) = false := by simpa using hh
      rw [this]
    have hr : headerM s p = (s, chk false 30 p) := by
      unfold headerM
      have : (hdW p == wHeader) = false := by simpa using hh
      rw [this]; rfl
    have hcd : (chk false 30 p).code = 30 := by rw [chk_no h0]
    rw [he] at hd1
    have c3 : w1.cell? ⟨g, 3, none⟩ = some (.int .i64 ((30 : Nat) : Int)) := by
      have := hd1.code
      rw [show (stp (chk false 30 p)).code = 30 from hcd] at this
      exact this
    have HF := hid (show DsPost w g D b T hv (headerM s p) (.returned (.tuple #[])) w1 from by
      rw [hr]
      exact ⟨⟨_, rfl⟩, hd1.off (show (stp (chk false 30 p)).code ≠ 0 by rw [show (stp (chk false 30 p)).code = 30 from hcd]; decide) rfl rfl, hv, s, HS.out.other hk1 HDB.out.1, fun _ => rfl, Moves.refl _ _, kept_s (kept_0 w g b hv) hk1⟩)
    clear hd1 hk1 he hr hcd hh h0
    go_wp2_with fail
    go_end0
    exact HF.out
  have he : expM wHeader p = stp p := by
    unfold expM
    rw [hh, show (wHeader == wHeader) = true from rfl, chk_true]
  rw [he] at hd1
  have hr : headerM s p = ({ s with heads := s.heads ++ [hdW (stp p)] }, nameM s.heads (stp p)) := by
    unfold headerM
    rw [hh]; rfl
  obtain ⟨p1, hp1⟩ : ∃ q, stp p = q := ⟨_, rfl⟩
  have hc1 : p1.code = 0 := by rw [← hp1]; exact h0
  rw [hp1] at hd1 hr
  have c3 : w1.cell? ⟨g, 3, none⟩ = some (.int .i64 0) := by have := hd1.code; rw [hc1] at this; exact this
  have H1 := hid (And.intro hd1 hk1)
  have HC1 := hid hc1
  have HR := hid hr
  clear hd1 hk1 he hr hh hp1 hc1 h0 CM
  go_wp2_with fail
  refine (docWord_any g D T p1 w1 H1.out.1).mono ?_
  rintro e w2 ⟨⟨x, rfl, hx, hxl⟩, hb2⟩
  have hxx := hx HC1.out
  have HK2 := hid (H1.out.2.trans (Kept.of_below (X := fun k => k = g) hb2) (fun k h _ => h))
  have HD2 := hid (H1.out.1.below hb2)
  have hs2 := HS.out.other HK2.out HDB.out.1
  obtain ⟨ah, chh, eh⟩ := hs2.own.reads.form
  rw [List.length_map] at eh
  obtain ⟨n, hn⟩ : ∃ n, s.heads.length = n := ⟨_, rfl⟩
  rw [hn] at eh
  subst eh
  have c6 : w2.cell? ⟨b, 6, none⟩ = some (.slice ah n chh) := hs2.row.cell 6
  have HS2 := hid hs2
  have HX := hid (And.intro hxx hxl)
  have HN := hid (And.intro hn (show n ≤ 4 by rw [← hn]; exact H4.out))
  clear hb2 hx hxx hxl c3 hs2 hn
  go_wp2_with fail
  have BAD : Hid (∀ (k : Nat), k ≠ 0 → nameM s.heads p1 = stp (chk false k p1) → ∀ w3 w4 w5, Below w2.heap.size w2 w3 → Kept (fun k => k = g) w3 w4 → Dc w5 g D T (stp (chk false k p1)) → Kept (fun k => k = g) w4 w5 → DsPost w g D b T (.slice ah n chh) (headerM s p) (.returned (.tuple #[])) w5) := by
    intro k hk he w3 w4 w5 b3 k4 d5 k5
    have hcd : (nameM s.heads p1).code ≠ 0 := by
      rw [he]
      show (chk false k p1).code ≠ 0
      rw [chk_no HC1.out]; exact hk
    have kall := ((HK2.out.trans (Kept.of_below (X := fun k => k = g) b3) (fun k h _ => h)).trans k4 (fun k h _ => h)).trans k5 (fun k h _ => h)
    rw [HR.out]
    refine ⟨⟨_, rfl⟩, ?_, _, s, HS.out.other kall HDB.out.1, fun e => absurd e hcd, Moves.refl _ _, kept_s (kept_0 w g b _) kall⟩
    show Dc w5 g D T (nameM s.heads p1)
    rw [he]; exact d5
  refine (refName_any x w2 (by have := HX.out.2; omega)).mono ?_
  obtain ⟨nk, hnk⟩ : ∃ q, nameOk x = q := ⟨_, rfl⟩
  rw [hnk]
  rintro e w3 ⟨rfl, hb3⟩
  have HB3 := hid hb3
  have HNK := hid hnk
  clear hb3 hnk c6
  cases nk
  · have hmay : mayM s.heads (hdW p1) = false := by unfold mayM; rw [← HX.out.1, HNK.out]; rfl
    have HMAY := hid hmay
    clear hmay
    go_wp2_with fail
    refine (docFail_any g D 30 T p1 w3 (HD2.out.below HB3.out) (by decide)).mono ?_
    rintro e w4 ⟨⟨u4, rfl⟩, hd4, hk4⟩
    have H4b := hid (And.intro hd4 hk4)
    clear hd4 hk4
    go_wp2_with fail
    refine (docStep_any g D T _ w4 H4b.out.1).mono ?_
    rintro e w5 ⟨⟨u5, rfl⟩, hd5, hk5⟩
    have H5 := hid (BAD.out 30 (by decide) (nameM_bad HC1.out HMAY.out) w3 w4 w5 HB3.out H4b.out.2 hd5 hk5)
    clear hd5 hk5
    go_wp2_with fail
    go_end0
    exact H5.out
  by_cases hn0 : n = 0
  · have hnil : s.heads = [] := List.length_eq_zero_iff.1 (by rw [HN.out.1]; exact hn0)
    have HMAY := hid (show mayM s.heads x = true by rw [hnil]; unfold mayM; rw [HNK.out]; rfl)
    have dn : decide ((0 : Int) < (n : Int)) = false := decide_eq_false (by omega)
    have dnn : decide (0 < n) = false := decide_eq_false (by omega)
    have z4 : ((n : Int) == 4) = false := by simp; omega
    have z4n : (n == 4) = false := by simp; omega
    have HLT := hid (show n < 4 by omega)
    clear hn0 hnil
    have HK3 := hid (HK2.out.trans (Kept.of_below (X := fun k => k = g) HB3.out) (fun k h _ => h))
    have hs3 := HS2.out.below HB3.out
    obtain ⟨W4, hW4⟩ : ∃ W, w3.alloc (.cells #[strV x] 9) = W := ⟨_, rfl⟩
    have hb4 : Below w3.heap.size w3 W4 := by rw [← hW4]; exact below_alloc _ _
    have r4 : rowIs W4 w3.heap.size #[strV x] 9 := by rw [← hW4]; exact rowIs_new _ _ _
    have hs4 := hs3.below hb4
    have ho4 := hs4.own
    have HD4 := hid ((HD2.out.below HB3.out).below hb4)
    have HS4 := hid (And.intro hs4 (And.intro hs3.row.lt hb4))
    have cc6 : w3.cell? ⟨b, 6, none⟩ = some (.slice ah n chh) := hs3.row.cell 6
    have hl5 : s.heads.length + 1 < 4294967296 := by have := H4.out; omega
    clear hs3 hs4 hb4
    go_wp2_with (at_builtin; go_must (refine wpList_append_genD W4 rfl _ _ 62 rfl 0 9 Tryz.underlying62 infoStr rfl (by decide) (by decide) (v := .slice ah n chh) rfl ho4 ⟨w3.heap.size, 0, none⟩ 1 1 [strV x] rfl (fun j u hj => by rw [addAt2, Nat.zero_add, r4.cell j]; simpa using hj) (fun u hu => by rw [List.mem_singleton] at hu; subst hu; rfl) rfl hl5 (Nat.zero_le _) ?_); intro v5 w5 ho5 hg5 hi5; obtain ⟨a5, n5, c5, rfl⟩ : ∃ ao n c, v5 = Value.slice ao n c := (by obtain ⟨ao, c, e⟩ := ownsRow_formN ho5; exact ⟨ao, _, c, e⟩); have hr5 : rowIs w5 b (siteRow (.slice ah n chh) s) 70 := HS4.out.1.row.kept ((Kept.refl (fun k => (Value.slice ah n chh).ownBlock = some k) W4).grown hg5 (fun k hk _ => hk)) (fun e => Nat.lt_irrefl _ (HS4.out.1.apart b e)); have c65 := hr5.cell 6; have f65 := hr5.free 6)
    have kg := (Kept.refl (fun k => (Value.slice ah n chh).ownBlock = some k) W4).grown hg5 (fun k hk _ => hk)
    have hg4 := HS4.out.2.2.size
    have hbl := HS4.out.2.1
    have hi5' : In (fun k => b < k) (.slice a5 n5 c5) := fun k hk => by
      rcases hi5 k hk with e | e
      · exact HS4.out.1.apart k e
      · omega
    have kset := (Kept.refl (fun k => k = b) w5).setCell (i := 6) (.inl rfl) (.slice a5 n5 c5)
    have hd5 : Dc w5 g D T p1 := HD4.out.kept kg (fun k hk e => by have := HS4.out.1.apart k e; have := HDB.out.2; omega)
    have hd6 : Dc (w5.setCell ⟨b, 6, none⟩ (.slice a5 n5 c5)) g D T p1 := hd5.kept kset (fun k hk e => by have := HDB.out.2; omega)
    have hs6 : Ds (w5.setCell ⟨b, 6, none⟩ (.slice a5 n5 c5)) b (.slice a5 n5 c5) { s with heads := s.heads ++ [x] } := by
      refine ⟨?_, ?_, hi5'⟩
      · have := hr5.setCell 6 (.slice a5 n5 c5)
        exact this
      · have := ownsRow_kept ho5 kset (fun k hk e => by have := hi5' k hk; omega)
        simpa using this
    have hk6 : Kept (fun k => k = g ∨ Fb b (.slice ah n chh) k) w (w5.setCell ⟨b, 6, none⟩ (.slice a5 n5 c5)) := by
      have k1 := kept_s (kept_0 w g b (.slice ah n chh)) HK3.out
      have k2 := (k1.trans (Kept.of_below (X := fun _ => False) HS4.out.2.2) (fun k h _ => h.elim)).trans kg (fun k h hk => .inr (.inr (h)))
      exact kept_b k2 kset
    have HF6 := hid (And.intro hd6 (And.intro hs6 (And.intro hk6 (show Moves w (.slice ah n chh) (.slice a5 n5 c5) from fun k hk => by
      rcases hi5 k hk with e | e
      · exact .inl (e)
      · exact .inr (by have h1 := HK3.out.size; have h2 := HS4.out.2.2.size; omega)))))
    clear kg hr5 hg4 hbl hi5' kset hd5 hd6 hs6 hk6 ho5 hg5 hi5 cc6 ho4 r4 hW4
    go_wp2_with fail
    refine (docStep_any g D T p1 (w5.setCell ⟨b, 6, none⟩ (.slice a5 n5 c5)) HF6.out.1).mono ?_
    rintro e w7 ⟨⟨u7, rfl⟩, hd7, hk7⟩
    have H7 := hid (And.intro hd7 hk7)
    clear hd7 hk7
    go_wp2_with fail
    go_end0
    rw [HR.out]
    refine ⟨⟨_, rfl⟩, ?_, _, _, HF6.out.2.1.other H7.out.2 HDB.out.1, fun _ => by rw [HX.out.1], HF6.out.2.2.2, kept_s HF6.out.2.2.1 H7.out.2⟩
    show Dc w7 g D T (nameM s.heads p1)
    rw [nameM_good (by rw [← HX.out.1]; exact HMAY.out) (by rw [HN.out.1]; exact HLT.out)]
    exact H7.out.1
  · obtain ⟨m, hm⟩ : ∃ m, n = m + 1 := ⟨n - 1, by omega⟩
    have hmw : IntKind.i64.wrap ((n : Int) - 1) = (m : Int) := by rw [IntWalk.i64_in _ (by have := HN.out.2; omega)]; omega
    have hm0 : (0 : Int) ≤ (m : Int) := by omega
    have hmI : (m : Int) < (n : Int) := by omega
    have dn : decide ((0 : Int) < (n : Int)) = true := decide_eq_true (by omega)
    have dnn : decide (0 < n) = true := decide_eq_true (by omega)
    obtain ⟨y, hy⟩ : ∃ y, s.heads[m]? = some y := by
      have := HN.out.1
      exact ⟨s.heads[m]'(by omega), List.getElem?_eq_getElem (by omega)⟩
    have hlast : s.heads.getLast? = some y := by
      rw [List.getLast?_eq_getElem?, HN.out.1, hm]; exact hy
    have hs3 := HS2.out.below HB3.out
    obtain ⟨ah', c', e1, f1, -⟩ := hs3.own.reads
    injection e1 with e1 e2 e3
    clear e2 e3
    subst e1
    obtain ⟨b6, o6, g6, i6⟩ := f1 m (strV y) (by rw [List.getElem?_map, hy]; rfl)
    subst g6
    have d6 : w3.cell? ⟨b6, o6 + m, none⟩ = some (strV y) := i6
    have c6 : w3.cell? ⟨b, 6, none⟩ = some (.slice (some ⟨b6, o6, none⟩) n chh) := hs3.row.cell 6
    obtain ⟨q, hq⟩ : ∃ q, Op.bytesLess y x = q := ⟨_, rfl⟩
    have hle : (Op.bytesLess x y || x == y) = !q := by rw [leq_not, hq]
    have HQ := hid (And.intro hq hlast)
    clear hs3 f1 i6 hy hlast hq hn0 hm
    cases q
    · have HMAY := hid (show mayM s.heads (hdW p1) = false by
        unfold mayM; rw [← HX.out.1, HNK.out, HQ.out.2]; exact HQ.out.1)
      simp only [Bool.not_false] at hle
      go_wp2_with fail
      refine (docFail_any g D 30 T p1 w3 (HD2.out.below HB3.out) (by decide)).mono ?_
      rintro e w4 ⟨⟨u4, rfl⟩, hd4, hk4⟩
      have H4b := hid (And.intro hd4 hk4)
      clear hd4 hk4
      go_wp2_with fail
      refine (docStep_any g D T _ w4 H4b.out.1).mono ?_
      rintro e w5 ⟨⟨u5, rfl⟩, hd5, hk5⟩
      have H5 := hid (BAD.out 30 (by decide) (nameM_bad HC1.out HMAY.out) w3 w4 w5 HB3.out H4b.out.2 hd5 hk5)
      clear hd5 hk5
      go_wp2_with fail
      go_end0
      exact H5.out
    have HMAY := hid (show mayM s.heads x = true by
      unfold mayM; rw [HNK.out, HQ.out.2]; exact HQ.out.1)
    simp only [Bool.not_true] at hle
    by_cases h4 : n = 4
    · have z4 : ((n : Int) == 4) = true := by simp; omega
      have z4n : (n == 4) = true := by simpa using h4
      have HN4 := hid h4
      clear h4
      go_wp2_with fail
      refine (docFail_any g D 32 T p1 w3 (HD2.out.below HB3.out) (by decide)).mono ?_
      rintro e w4 ⟨⟨u4, rfl⟩, hd4, hk4⟩
      have H4b := hid (And.intro hd4 hk4)
      clear hd4 hk4
      go_wp2_with fail
      refine (docStep_any g D T _ w4 H4b.out.1).mono ?_
      rintro e w5 ⟨⟨u5, rfl⟩, hd5, hk5⟩
      have H5 := hid (BAD.out 32 (by decide) (nameM_many (by rw [← HX.out.1]; exact HMAY.out) (HN.out.1.trans HN4.out)) w3 w4 w5 HB3.out H4b.out.2 hd5 hk5)
      clear hd5 hk5
      go_wp2_with fail
      go_end0
      exact H5.out
    · have z4 : ((n : Int) == 4) = false := by simp; omega
      have z4n : (n == 4) = false := by simpa using h4
      have HLT := hid (show n < 4 by have := HN.out.2; omega)
      clear h4
      have HK3 := hid (HK2.out.trans (Kept.of_below (X := fun k => k = g) HB3.out) (fun k h _ => h))
      have hs3 := HS2.out.below HB3.out
      obtain ⟨W4, hW4⟩ : ∃ W, w3.alloc (.cells #[strV x] 9) = W := ⟨_, rfl⟩
      have hb4 : Below w3.heap.size w3 W4 := by rw [← hW4]; exact below_alloc _ _
      have r4 : rowIs W4 w3.heap.size #[strV x] 9 := by rw [← hW4]; exact rowIs_new _ _ _
      have hs4 := hs3.below hb4
      have ho4 := hs4.own
      have HD4 := hid ((HD2.out.below HB3.out).below hb4)
      have HS4 := hid (And.intro hs4 (And.intro hs3.row.lt hb4))
      have cc6 : w3.cell? ⟨b, 6, none⟩ = some (.slice (some ⟨b6, o6, none⟩) n chh) := hs3.row.cell 6
      have hl5 : s.heads.length + 1 < 4294967296 := by have := H4.out; omega
      clear hs3 hs4 hb4
      go_wp2_with (at_builtin; go_must (refine wpList_append_genD W4 rfl _ _ 62 rfl 0 9 Tryz.underlying62 infoStr rfl (by decide) (by decide) (v := .slice (some ⟨b6, o6, none⟩) n chh) rfl ho4 ⟨w3.heap.size, 0, none⟩ 1 1 [strV x] rfl (fun j u hj => by rw [addAt2, Nat.zero_add, r4.cell j]; simpa using hj) (fun u hu => by rw [List.mem_singleton] at hu; subst hu; rfl) rfl hl5 (Nat.zero_le _) ?_); intro v5 w5 ho5 hg5 hi5; obtain ⟨a5, n5, c5, rfl⟩ : ∃ ao n c, v5 = Value.slice ao n c := (by obtain ⟨ao, c, e⟩ := ownsRow_formN ho5; exact ⟨ao, _, c, e⟩); have hr5 : rowIs w5 b (siteRow (.slice (some ⟨b6, o6, none⟩) n chh) s) 70 := HS4.out.1.row.kept ((Kept.refl (fun k => (Value.slice (some ⟨b6, o6, none⟩) n chh).ownBlock = some k) W4).grown hg5 (fun k hk _ => hk)) (fun e => Nat.lt_irrefl _ (HS4.out.1.apart b e)); have c65 := hr5.cell 6; have f65 := hr5.free 6)
      have kg := (Kept.refl (fun k => (Value.slice (some ⟨b6, o6, none⟩) n chh).ownBlock = some k) W4).grown hg5 (fun k hk _ => hk)
      have hg4 := HS4.out.2.2.size
      have hbl := HS4.out.2.1
      have hi5' : In (fun k => b < k) (.slice a5 n5 c5) := fun k hk => by
        rcases hi5 k hk with e | e
        · exact HS4.out.1.apart k e
        · omega
      have kset := (Kept.refl (fun k => k = b) w5).setCell (i := 6) (.inl rfl) (.slice a5 n5 c5)
      have hd5 : Dc w5 g D T p1 := HD4.out.kept kg (fun k hk e => by have := HS4.out.1.apart k e; have := HDB.out.2; omega)
      have hd6 : Dc (w5.setCell ⟨b, 6, none⟩ (.slice a5 n5 c5)) g D T p1 := hd5.kept kset (fun k hk e => by have := HDB.out.2; omega)
      have hs6 : Ds (w5.setCell ⟨b, 6, none⟩ (.slice a5 n5 c5)) b (.slice a5 n5 c5) { s with heads := s.heads ++ [x] } := by
        refine ⟨?_, ?_, hi5'⟩
        · have := hr5.setCell 6 (.slice a5 n5 c5)
          exact this
        · have := ownsRow_kept ho5 kset (fun k hk e => by have := hi5' k hk; omega)
          simpa using this
      have hk6 : Kept (fun k => k = g ∨ Fb b (.slice (some ⟨b6, o6, none⟩) n chh) k) w (w5.setCell ⟨b, 6, none⟩ (.slice a5 n5 c5)) := by
        have k1 := kept_s (kept_0 w g b (.slice (some ⟨b6, o6, none⟩) n chh)) HK3.out
        have k2 := (k1.trans (Kept.of_below (X := fun _ => False) HS4.out.2.2) (fun k h _ => h.elim)).trans kg (fun k h hk => .inr (.inr (h)))
        exact kept_b k2 kset
      have HF6 := hid (And.intro hd6 (And.intro hs6 (And.intro hk6 (show Moves w (.slice (some ⟨b6, o6, none⟩) n chh) (.slice a5 n5 c5) from fun k hk => by
        rcases hi5 k hk with e | e
        · exact .inl (e)
        · exact .inr (by have h1 := HK3.out.size; have h2 := HS4.out.2.2.size; omega)))))
      clear kg hr5 hg4 hbl hi5' kset hd5 hd6 hs6 hk6 ho5 hg5 hi5 cc6 ho4 r4 hW4
      go_wp2_with fail
      refine (docStep_any g D T p1 (w5.setCell ⟨b, 6, none⟩ (.slice a5 n5 c5)) HF6.out.1).mono ?_
      rintro e w7 ⟨⟨u7, rfl⟩, hd7, hk7⟩
      have H7 := hid (And.intro hd7 hk7)
      clear hd7 hk7
      go_wp2_with fail
      go_end0
      rw [HR.out]
      refine ⟨⟨_, rfl⟩, ?_, _, _, HF6.out.2.1.other H7.out.2 HDB.out.1, fun _ => by rw [HX.out.1], HF6.out.2.2.2, kept_s HF6.out.2.2.1 H7.out.2⟩
      show Dc w7 g D T (nameM s.heads p1)
      rw [nameM_good (by rw [← HX.out.1]; exact HMAY.out) (by rw [HN.out.1]; exact HLT.out)]
      exact H7.out.1
end Go.Proofs.YtenijpcjemdhfaaGreatDoor

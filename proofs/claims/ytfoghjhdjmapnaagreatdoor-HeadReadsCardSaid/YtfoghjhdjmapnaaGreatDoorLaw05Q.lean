/-
  The walk of the statement HeadReads.
-/
import Derived.Test.YtfoghjhdjmapnaaGreatDoorLaw05A
import Derived.Test.YtfoghjhdjmapnaaGreatDoorHeadX
import Derived.Test.YtfoghjhdjmapnaaGreatDoorMadeR5
import Derived.Test.YtfoghjhdjmapnaaGreatDoorRef5H
namespace Go.Proofs.YtfoghjhdjmapnaaGreatDoor
open Go.RowKit Go.Pantry

theorem own_far {w : World} {B : Nat} {e : TypeId} {ao : Option Addr} {n c size : Nat} {xs : List Value} (h : w.ownsRow B e size (.slice ao n c) n xs) : ∀ a, ao = some a → B ≤ a.block := fun a ha => by
  subst ha
  exact (h.lt a.block rfl).1
theorem reads2_setRow {w : World} {ao : Option Addr} {n c G : Nat} {L : List Fld} (h : Reads2 w (.slice ao n c) L) (hf : ∀ a, ao = some a → G < a.block) (cs : Array Value) : Reads2 (w.setRow G cs) (.slice ao n c) L := by
  obtain ⟨ao', cap', hv, hc, hz, hn⟩ := h
  cases hv
  refine ⟨_, _, rfl, fun j p hj => ?_, hz, hn⟩
  obtain ⟨b, off, ha, g1, g2⟩ := hc j p hj
  have hb := hf _ ha
  simp only at hb
  exact ⟨b, off, ha, (World.cell?_of_block (w := w) (a := ⟨b, off + j * 2, none⟩) (_root_.Go.setRow_other w G b cs (by omega))).trans g1, (World.cell?_of_block (w := w) (a := ⟨b, off + j * 2 + 1, none⟩) (_root_.Go.setRow_other w G b cs (by omega))).trans g2⟩
theorem refRead_form {t : TypeId} {B : Nat} {x : Except Nat (Hd × Nat)} {e : Ending} {w' : World} (h : RefRead t B x e w') :
    ∃ ao c, e = .returned (.tuple #[.agg #[strV (hX x).first, strV (hX x).second, .int .i64 ((hX x).status : Int), .int .i64 ((hX x).minor : Int), .slice ao (hX x).flds.length c], .int .i64 (nX x), .int .i64 (codeX x)]) ∧ Reads2 w' (.slice ao (hX x).flds.length c) (hX x).flds ∧ ∀ a, ao = some a → B ≤ a.block := by
  cases x with
  | error k =>
    obtain ⟨_, rfl⟩ := h
    exact ⟨none, 0, rfl, ⟨none, 0, rfl, (fun j p hj => by cases hj), fun _ => rfl, Nat.le_refl _⟩, fun a ha => by cases ha⟩
  | ok p =>
    obtain ⟨h', n⟩ := p
    obtain ⟨v', rfl, ho⟩ := h
    obtain ⟨ao, c, rfl⟩ := ownsRow_form ho
    exact ⟨ao, c, rfl, (ho.reads2).2, own_far ho⟩
theorem resRead_form2 {t : TypeId} {B : Nat} {x : Except Nat (Hd × Nat)} {e : Ending} {w' : World} (h : ResRead t B x e w') :
    ∃ ao c, e = .returned (.tuple #[.agg #[.int .i64 ((hX x).status : Int), strV (hX x).first, .int .i64 ((hX x).minor : Int), .slice ao (hX x).flds.length c], .int .i64 (nX x), .int .i64 (codeX x)]) ∧ Reads2 w' (.slice ao (hX x).flds.length c) (hX x).flds ∧ ∀ a, ao = some a → B ≤ a.block := by
  cases x with
  | error k =>
    obtain ⟨_, rfl⟩ := h
    exact ⟨none, 0, rfl, ⟨none, 0, rfl, (fun j p hj => by cases hj), fun _ => rfl, Nat.le_refl _⟩, fun a ha => by cases ha⟩
  | ok p =>
    obtain ⟨h', n⟩ := p
    obtain ⟨v', rfl, ho⟩ := h
    obtain ⟨ao, c, rfl⟩ := ownsRow_form ho
    exact ⟨ao, c, rfl, (ho.reads2).2, own_far ho⟩
theorem refRead_at {t : TypeId} {B : Nat} {x : Except Nat (Hd × Nat)} {e : Ending} {w' : World} (h : RefRead t B x e w') {k n : Int} {m s : List UInt8} {st z : Nat} {L : List Fld} (hk : codeX x = k) (hn : nX x = n) (hm : (hX x).first = m) (hs : (hX x).second = s) (hst : (hX x).status = st) (hz : (hX x).minor = z) (hL : (hX x).flds = L) :
    ∃ ao c, e = .returned (.tuple #[.agg #[strV m, strV s, .int .i64 (st : Int), .int .i64 (z : Int), .slice ao L.length c], .int .i64 n, .int .i64 k]) ∧ Reads2 w' (.slice ao L.length c) L ∧ ∀ a, ao = some a → B ≤ a.block := by
  subst hk hn hm hs hst hz hL
  exact refRead_form h
theorem reqRead_at {t : TypeId} {B : Nat} {x : Except Nat (Hd × Nat)} {e : Ending} {w' : World} (h : ReqRead t B x e w') {k n : Int} {m s : List UInt8} {z : Nat} {L : List Fld} (hk : codeX x = k) (hn : nX x = n) (hm : (hX x).first = m) (hs : (hX x).second = s) (hz : (hX x).minor = z) (hL : (hX x).flds = L) :
    ∃ ao c, e = .returned (.tuple #[.agg #[strV m, strV s, .int .i64 (z : Int), .slice ao L.length c], .int .i64 n, .int .i64 k]) ∧ Reads2 w' (.slice ao L.length c) L := by
  subst hk hn hm hs hz hL
  exact reqRead_form h
theorem resRead_at {t : TypeId} {B : Nat} {x : Except Nat (Hd × Nat)} {e : Ending} {w' : World} (h : ResRead t B x e w') {k n : Int} {m : List UInt8} {st z : Nat} {L : List Fld} (hk : codeX x = k) (hn : nX x = n) (hm : (hX x).first = m) (hst : (hX x).status = st) (hz : (hX x).minor = z) (hL : (hX x).flds = L) :
    ∃ ao c, e = .returned (.tuple #[.agg #[.int .i64 (st : Int), strV m, .int .i64 (z : Int), .slice ao L.length c], .int .i64 n, .int .i64 k]) ∧ Reads2 w' (.slice ao L.length c) L ∧ ∀ a, ao = some a → B ≤ a.block := by
  subst hk hn hm hst hz hL
  exact resRead_form2 h
theorem okFs_right {L : List Fld} (h : rightFs L = true) : okFs L ∧ L.length ≤ 64 := by
  unfold rightFs rightF at h
  simp only [Bool.and_eq_true, decide_eq_true_eq, List.all_eq_true] at h
  refine ⟨⟨by omega, fun f hf => ?_⟩, h.1⟩
  have := h.2 f hf
  omega
theorem reqX_facts (l : List UInt8) : (hX (readL reqL l)).status = 0 ∧ (hX (readL reqL l)).flds.length ≤ 64 ∧ ((codeX (readL reqL l) = 0 ∧ okFs (hX (readL reqL l)).flds ∧ (hX (readL reqL l)).first.length ≤ 100000 ∧ (hX (readL reqL l)).second.length ≤ 100000 ∧ rightQ (hX (readL reqL l)).first (hX (readL reqL l)).second ((hX (readL reqL l)).minor : Int) (hX (readL reqL l)).flds = true) ∨ codeX (readL reqL l) ≠ 0) := by
  have hc := read_cases l
  cases hx : readL reqL l with
  | error k =>
    refine ⟨rfl, Nat.zero_le _, .inr ?_⟩
    rw [hx] at hc
    show ((k : Nat) : Int) ≠ 0
    rcases hc with ⟨h, _⟩ | ⟨h, _⟩ | ⟨h, _⟩
    · cases h; decide
    · cases h; decide
    · rcases h k rfl with rfl | rfl <;> decide
  | ok p =>
    obtain ⟨h, n⟩ := p
    have hr := readReq_right hx
    unfold rightReq at hr
    simp only [Bool.and_eq_true, decide_eq_true_eq, beq_iff_eq] at hr
    obtain ⟨⟨⟨h1, h2⟩, ⟨⟨⟨h3, h4⟩, h5⟩, h6⟩⟩, h7⟩ := hr
    obtain ⟨k1, k2⟩ := okFs_right h2
    refine ⟨h7, k2, .inl ⟨rfl, k1, ?_, ?_, ?_⟩⟩
    · show h.first.length ≤ 100000
      omega
    · show h.second.length ≤ 100000
      omega
    · show rightQ h.first h.second (h.minor : Int) h.flds = true
      rw [rightQ_eq]
      simp [h2, h3, h4, h5, h6]
      omega
theorem resX_facts (l : List UInt8) : (hX (readL resL l)).second = [] ∧ (hX (readL resL l)).flds.length ≤ 64 ∧ ((codeX (readL resL l) = 0 ∧ okFs (hX (readL resL l)).flds ∧ (hX (readL resL l)).first.length ≤ 100000 ∧ rightS ((hX (readL resL l)).status : Int) (hX (readL resL l)).first ((hX (readL resL l)).minor : Int) (hX (readL resL l)).flds = true) ∨ codeX (readL resL l) ≠ 0) := by
  have hc := read_cases l
  cases hx : readL resL l with
  | error k =>
    refine ⟨rfl, Nat.zero_le _, .inr ?_⟩
    rw [hx] at hc
    show ((k : Nat) : Int) ≠ 0
    rcases hc with ⟨_, h⟩ | ⟨_, h⟩ | ⟨_, h⟩
    · cases h; decide
    · cases h; decide
    · rcases h k rfl with rfl | rfl <;> decide
  | ok p =>
    obtain ⟨h, n⟩ := p
    have hr := readRes_right hx
    unfold rightRes at hr
    simp only [Bool.and_eq_true, decide_eq_true_eq, beq_iff_eq] at hr
    obtain ⟨⟨⟨h1, h2⟩, ⟨⟨⟨⟨h3, h4⟩, h5⟩, h6⟩, h7⟩⟩, h8⟩ := hr
    obtain ⟨k1, k2⟩ := okFs_right h2
    refine ⟨h8, k2, .inl ⟨rfl, k1, ?_, ?_⟩⟩
    · show h.first.length ≤ 100000
      omega
    · show rightS (h.status : Int) h.first (h.minor : Int) h.flds = true
      rw [rightS_eq]
      simp [h2, h5, h6, h7]
      omega
/-- from w0 on; two boxes -/
def BoxB (w0 : World) (g1 : Nat) (c1 : Array Value) (t1 : TypeId) (g2 : Nat) (c2 : Array Value) (t2 : TypeId) : List Bool → World → Prop := fun _ W => Below w0.heap.size w0 W ∧ w0.heap.size ≤ W.heap.size ∧ rowIs W g1 c1 t1 ∧ rowIs W g2 c2 t2
theorem BoxB.below {w0 : World} {g1 g2 : Nat} {c1 c2 : Array Value} {t1 t2 : TypeId} {b : List Bool} {W W' : World} (h : BoxB w0 g1 c1 t1 g2 c2 t2 b W) (hb : Below W.heap.size W W') : BoxB w0 g1 c1 t1 g2 c2 t2 b W' :=
  ⟨h.1.trans (hb.mono h.2.1), Nat.le_trans h.2.1 hb.size, h.2.2.1.below hb, h.2.2.2.below hb⟩
set_option maxRecDepth 100000 in
set_option maxHeartbeats 32000000 in
theorem headReads_walk (v : Value) (l : List UInt8) (w : World) (hm : MaxOk w) (hl : Reads w v (l.map byteV) ∧ (∀ ao n cap, v = .slice ao n cap → n ≤ cap) ∧ l.length ≤ maxLen) :
    Calls Tryz.prog 3 #[v] w fun e w' => e = .returned (.bool true) ∧ Below w.heap.size w w' := by
  obtain ⟨hr, hroom, hll⟩ := hl
  obtain ⟨ao, cap, rfl⟩ := hr.form
  rw [List.length_map] at *
  have hc := hroom ao l.length cap rfl
  unfold maxLen at hll
  have HR := hid hr
  have ca := fun W h => anchor_any W h
  have CA := hid ca
  clear hr hroom ca
  by_cases h5 : (5000 : Int) < (l.length : Int)
  · go_enter Tryz.func3, Tryz.ntmps3
    go_wp2_with fail
    refine (CA.out _ hm).mono ?_
    rintro e w1 ⟨rfl, hb1⟩
    go_wp2_with fail
    go_ret
    exact ⟨rfl, hb1⟩
  · have d5 : decide ((5000 : Int) < (l.length : Int)) = false := decide_eq_false h5
    have c1 := fun W h1 h2 => ReadRequest_any ao cap l W h1 hc h2
    have c2 := fun W h1 => refRead_any ao cap l true W h1 (by omega)
    have c3 := fun W h1 h2 => ReadResponse_any ao cap l W h1 hc h2
    have c4 := fun W h1 => refRead_any ao cap l false W h1 (by omega)
    simp only [if_true] at c2
    simp only [Bool.false_eq_true, if_false] at c4
    have hx := reqX_facts l
    have hy := resX_facts l
    generalize readL reqL l = x at c1 c2 hx
    generalize readL resL l = y at c3 c4 hy
    obtain ⟨hst, hl64, hok⟩ := hx
    obtain ⟨hse, hm64, hok2⟩ := hy
    obtain ⟨k, hk⟩ : ∃ k, codeX x = k := ⟨_, rfl⟩
    obtain ⟨n, hn⟩ : ∃ k, nX x = k := ⟨_, rfl⟩
    obtain ⟨m, hm1⟩ : ∃ k, (hX x).first = k := ⟨_, rfl⟩
    obtain ⟨t, ht1⟩ : ∃ k, (hX x).second = k := ⟨_, rfl⟩
    obtain ⟨z, hz1⟩ : ∃ k, (hX x).minor = k := ⟨_, rfl⟩
    obtain ⟨L, hL1⟩ : ∃ k, (hX x).flds = k := ⟨_, rfl⟩
    obtain ⟨k2, hk2⟩ : ∃ k, codeX y = k := ⟨_, rfl⟩
    obtain ⟨n2, hn2⟩ : ∃ k, nX y = k := ⟨_, rfl⟩
    obtain ⟨m2, hm2⟩ : ∃ k, (hX y).first = k := ⟨_, rfl⟩
    obtain ⟨st2, hst2⟩ : ∃ k, (hX y).status = k := ⟨_, rfl⟩
    obtain ⟨z2, hz2⟩ : ∃ k, (hX y).minor = k := ⟨_, rfl⟩
    obtain ⟨L2, hL2⟩ : ∃ k, (hX y).flds = k := ⟨_, rfl⟩
    rw [hk, hm1, ht1, hz1, hL1] at hok
    rw [hL1] at hl64
    rw [hk2, hm2, hst2, hz2, hL2] at hok2
    rw [hL2] at hm64
    have f1 := fun {t B e w'} (h : ReqRead t B x e w') => reqRead_at h hk hn hm1 ht1 hz1 hL1
    have f2 := fun {t B e w'} (h : RefRead t B x e w') => refRead_at h hk hn hm1 ht1 hst hz1 hL1
    have f3 := fun {t B e w'} (h : ResRead t B y e w') => resRead_at h hk2 hn2 hm2 hst2 hz2 hL2
    have f4 := fun {t B e w'} (h : RefRead t B y e w') => refRead_at h hk2 hn2 hm2 hse hst2 hz2 hL2
    have C1 := hid (fun W h1 h2 => (c1 W h1 h2).mono fun e w' h => And.intro (f1 h.1) h.2)
    have C2 := hid (fun W h1 => (c2 W h1).mono fun e w' h => And.intro (f2 h.1) h.2)
    have C3 := hid (fun W h1 h2 => (c3 W h1 h2).mono fun e w' h => And.intro (f3 h.1) h.2)
    have C4 := hid (fun W h1 => (c4 W h1).mono fun e w' h => And.intro (f4 h.1) h.2)
    have HOK := hid hok
    have HOK2 := hid hok2
    have cm := fun v W h => madeReq_any m t (z : Int) v L W h (by omega)
    have ce := fun a1 a2 b1 b2 W h1 h2 => same_eq m t 0 (z : Int) L a1 a2 b1 b2 W h1 h2 (by omega)
    have cm2 := fun v W h => madeRes_any (st2 : Int) m2 (z2 : Int) v L2 W h (by omega)
    have ce2 := fun a1 a2 b1 b2 W h1 h2 => same_eq m2 [] (st2 : Int) (z2 : Int) L2 a1 a2 b1 b2 W h1 h2 (by omega)
    have CM := hid cm
    have CE := hid ce
    have CM2 := hid cm2
    have CE2 := hid ce2
    clear c1 c2 c3 c4 h5 f1 f2 f3 f4 hok hok2 hk hn hm1 ht1 hz1 hL1 hst hl64 hk2 hn2 hm2 hst2 hz2 hL2 hse hm64 cm ce cm2 ce2 x y
    go_enter Tryz.func3, Tryz.ntmps3
    go_wp2_with fail
    refine (CA.out _ hm).mono ?_
    rintro e w1 ⟨rfl, hb1⟩
    go_wp2_with fail
    refine (C1.out _ (HR.out.below hb1) (hm.below hb1)).mono ?_
    rintro e w2 ⟨⟨ao1, cp1, rfl, rd1⟩, hb2⟩
    have hb3 := chain2 hb1 hb1.size hb2
    have hm3 := hm.below hb3
    clear hb1 hb2 C1 CA hm
    obtain ⟨W, hW⟩ : ∃ W, W = w2.alloc (.cells #[strV m, strV t, .int .i64 (z : Int), .slice ao1 L.length cp1] 29) := ⟨_, rfl⟩
    have hbW : Below w2.heap.size w2 W := by rw [hW]; exact below_alloc _ _
    have hg1 : rowIs W w2.heap.size #[strV m, strV t, .int .i64 (z : Int), .slice ao1 L.length cp1] 29 := by rw [hW]; exact rowIs_new _ _ _
    have rd1b := rd1.below hbW
    have hm4 := hm3.below hbW
    have hb4 := chain2 hb3 hb3.size hbW
    have hwG1 : w.heap.size ≤ w2.heap.size := hb3.size
    clear hb3 hbW rd1 hm3
    go_wp2_with fail
    rw [← hW]
    clear hW
    generalize w2.heap.size = G1 at *
    refine (C2.out _ (HR.out.below hb4)).mono ?_
    rintro e w3 ⟨⟨ao2, cp2, rfl, rd2, -⟩, hb5⟩
    clear C2
    have hg1b := hg1.below hb5
    have rd1c := rd1b.below hb5
    have hm5 := hm4.below hb5
    have hb6 := chain2 hb4 hb4.size hb5
    clear hg1 rd1b hm4 hb4 hb5
    obtain ⟨W, hW⟩ : ∃ W, W = w3.alloc (.cells #[strV m, strV t, .int .i64 0, .int .i64 (z : Int), .slice ao2 L.length cp2] 35) := ⟨_, rfl⟩
    have hbW : Below w3.heap.size w3 W := by rw [hW]; exact below_alloc _ _
    have hg2 : rowIs W w3.heap.size #[strV m, strV t, .int .i64 0, .int .i64 (z : Int), .slice ao2 L.length cp2] 35 := by rw [hW]; exact rowIs_new _ _ _
    have hg1c := hg1b.below hbW
    have hne : G1 ≠ w3.heap.size := by have := hg1b.lt; omega
    have RD1 := hid (rd1c.below hbW)
    have RD2 := hid (rd2.below hbW)
    have hm6 := hm5.below hbW
    have hb7 := chain2 hb6 hb6.size hbW
    have hwG2 : w.heap.size ≤ w3.heap.size := hb6.size
    clear hg1b rd1c rd2 hm5 hb6 hbW
    go_wp2_with fail
    rw [← hW]
    clear hW
    generalize w3.heap.size = G2 at *
    rcases HOK.out with ⟨rfl, hkf, hml, htl, hrq⟩ | hk0
    · have cq := fun W h => qRight_any m t (z : Int) (.slice ao1 L.length cp1) L W hml htl h hkf
      rw [hrq] at cq
      have CQ := hid cq
      clear cq hkf hml htl hrq HOK
      have e5 : (n == n) = true := by simp
      have e6 : (n != n) = false := by simp
      refine wp_region_held_drew (S := BoxB W G1 #[strV m, strV t, .int .i64 (z : Int), .slice ao1 L.length cp1] 29 G2 #[strV m, strV t, .int .i64 0, .int .i64 (z : Int), .slice ao2 L.length cp2] 35 []) (by kernel_rfl) ⟨(Below.refl _ _).drew, Nat.le_refl _, hg1c, hg2⟩ (fun hH => ?_)
      refine wpAnyH_take (i := 0) (v := ?_) rfl (by kernel_rfl) (by kernel_rfl) (by kernel_rfl) (fun _ _ _ h => h) (Or.inl ⟨by kernel_rfl, ?_⟩) hH ?_
      rotate_left
      · intro W hS
        go_simp
        first | done | with_reducible rfl
      simp only [Act.put, List.getElem_toArray, List.getElem_cons_succ, List.getElem_cons_zero, List.setIfInBounds_toArray, List.set_cons_zero, List.set_cons_succ]
      refine wpAnyH_take (i := 1) (v := ?_) rfl (by kernel_rfl) (by kernel_rfl) (by kernel_rfl) (fun _ _ _ h => h) (Or.inl ⟨by kernel_rfl, ?_⟩) hH ?_
      rotate_left
      · intro W hS
        go_simp
        first | done | with_reducible rfl
      simp only [Act.put, List.getElem_toArray, List.getElem_cons_succ, List.getElem_cons_zero, List.setIfInBounds_toArray, List.set_cons_zero, List.set_cons_succ]
      refine wpAnyH_take (i := 2) (v := ?_) rfl (by kernel_rfl) (by kernel_rfl) (by kernel_rfl) (fun _ _ _ h => h) (Or.inl ⟨by kernel_rfl, ?_⟩) hH ?_
      rotate_left
      · intro W hS
        go_simp
        first | done | with_reducible rfl
      simp only [Act.put, List.getElem_toArray, List.getElem_cons_succ, List.getElem_cons_zero, List.setIfInBounds_toArray, List.set_cons_zero, List.set_cons_succ]
      refine wpAnyH_take (i := 3) (v := ?_) rfl (by kernel_rfl) (by kernel_rfl) (by kernel_rfl) (fun _ _ _ h => h) (Or.inl ⟨by kernel_rfl, ?_⟩) hH ?_
      rotate_left
      · intro W hS
        go_simp
        first | done | with_reducible rfl
      simp only [Act.put, List.getElem_toArray, List.getElem_cons_succ, List.getElem_cons_zero, List.setIfInBounds_toArray, List.set_cons_zero, List.set_cons_succ]
      refine wpAnyH_take (i := 4) (v := ?_) rfl (by kernel_rfl) (by kernel_rfl) (by kernel_rfl) (fun _ _ _ h => h) (Or.inl ⟨by kernel_rfl, ?_⟩) hH ?_
      rotate_left
      · intro W hS
        go_simp
        first | done | with_reducible rfl
      simp only [Act.put, List.getElem_toArray, List.getElem_cons_succ, List.getElem_cons_zero, List.setIfInBounds_toArray, List.set_cons_zero, List.set_cons_succ]
      refine wpAnyH_take (i := 5) (v := ?_) rfl (by kernel_rfl) (by kernel_rfl) (by kernel_rfl) (fun _ _ _ h => h) (Or.inl ⟨by kernel_rfl, ?_⟩) hH ?_
      rotate_left
      · intro W hS
        go_simp
        first | done | with_reducible rfl
      simp only [Act.put, List.getElem_toArray, List.getElem_cons_succ, List.getElem_cons_zero, List.setIfInBounds_toArray, List.set_cons_zero, List.set_cons_succ]
      refine wpAnyH_take (i := 6) (v := ?_) rfl (by kernel_rfl) (by kernel_rfl) (by kernel_rfl) (fun _ _ _ h => h) (Or.inl ⟨by kernel_rfl, ?_⟩) hH ?_
      rotate_left
      · intro W hS
        go_simp
        first | done | with_reducible rfl
      simp only [Act.put, List.getElem_toArray, List.getElem_cons_succ, List.getElem_cons_zero, List.setIfInBounds_toArray, List.set_cons_zero, List.set_cons_succ]
      refine wpAnyH_take (i := 7) (v := ?_) rfl (by kernel_rfl) (by kernel_rfl) (by kernel_rfl) (fun _ _ _ h => h) (Or.inl ⟨by kernel_rfl, ?_⟩) hH ?_
      rotate_left
      · intro W hS
        go_simp
        first | done | with_reducible rfl
      simp only [Act.put, List.getElem_toArray, List.getElem_cons_succ, List.getElem_cons_zero, List.setIfInBounds_toArray, List.set_cons_zero, List.set_cons_succ]
      refine wpAnyH_take (i := 8) (v := ?_) rfl (by kernel_rfl) (by kernel_rfl) (by kernel_rfl) (fun _ _ _ h => h) (Or.inl ⟨by kernel_rfl, ?_⟩) hH ?_
      rotate_left
      · intro W hS
        go_simp
        first | done | with_reducible rfl
      simp only [Act.put, List.getElem_toArray, List.getElem_cons_succ, List.getElem_cons_zero, List.setIfInBounds_toArray, List.set_cons_zero, List.set_cons_succ]
      refine wpAnyH_take (i := 9) (v := .agg #[strV m, strV t, .int .i64 (z : Int), .slice ao1 L.length cp1]) rfl (by kernel_rfl) (by kernel_rfl) (by kernel_rfl) (fun _ _ _ h => h) (Or.inl ⟨by kernel_rfl, ?_⟩) hH ?_
      · intro W hS
        exact load_gives (x := .tmp 3) (by kernel_rfl) G1 (by kernel_rfl) hS.2.2.1 Tryz.underlying29 rfl infoReqS
      simp only [Act.put, List.getElem_toArray, List.getElem_cons_succ, List.getElem_cons_zero, List.setIfInBounds_toArray, List.set_cons_zero, List.set_cons_succ]
      refine wpAnyH_take (i := 11) (v := .agg #[strV m, strV t, .int .i64 0, .int .i64 (z : Int), .slice ao2 L.length cp2]) rfl (by kernel_rfl) (by kernel_rfl) (by kernel_rfl) (fun _ _ _ h => h) (Or.inl ⟨by kernel_rfl, ?_⟩) hH ?_
      · intro W hS
        exact load_gives (x := .tmp 6) (by kernel_rfl) G2 (by kernel_rfl) hS.2.2.2 Tryz.underlying35 rfl infoHdS
      simp only [Act.put, List.getElem_toArray, List.getElem_cons_succ, List.getElem_cons_zero, List.setIfInBounds_toArray, List.set_cons_zero, List.set_cons_succ]
      refine wpAnyH_ready (rs := [10]) (by kernel_rfl) (by simp) ?_
      refine AllReadyH.cons rfl (fun K hK => ?_) AllReadyH.nil
      go_simp
      refine (CM.out (.slice ao1 L.length cp1) _ (RD1.out.below hH.1)).mono ?_
      rintro e w9 ⟨⟨aom1, cm1, rfl, rd17⟩, hb17⟩
      have hS1 := BoxB.below hH hb17
      clear hH
      refine hK.out _ _ hS1 (fun hH => ?_)
      clear hK K
      try simp only [Act.put, List.getElem_toArray, List.getElem_cons_succ, List.getElem_cons_zero, List.setIfInBounds_toArray, List.set_cons_zero, List.set_cons_succ]
      refine wpAnyH_ready (rs := [12]) (by kernel_rfl) (by simp) ?_
      refine AllReadyH.cons rfl (fun K hK => ?_) AllReadyH.nil
      go_simp
      refine (CE.out _ _ _ _ _ rd17 (RD2.out.below hH.1)).mono ?_
      rintro e w9 ⟨rfl, hb20⟩
      have hS1 := BoxB.below hH hb20
      clear hH
      refine hK.out _ _ hS1 (fun hH => ?_)
      clear hK K
      try simp only [Act.put, List.getElem_toArray, List.getElem_cons_succ, List.getElem_cons_zero, List.setIfInBounds_toArray, List.set_cons_zero, List.set_cons_succ]
      refine wpAnyH_take (i := 13) (v := ?_) rfl (by kernel_rfl) (by kernel_rfl) (by kernel_rfl) (fun _ _ _ h => h) (Or.inl ⟨by kernel_rfl, ?_⟩) hH ?_
      rotate_left
      · intro W hS
        go_simp
        first | done | with_reducible rfl
      simp only [Act.put, List.getElem_toArray, List.getElem_cons_succ, List.getElem_cons_zero, List.setIfInBounds_toArray, List.set_cons_zero, List.set_cons_succ]
      refine wpAnyH_take (i := 14) (v := ?_) rfl (by kernel_rfl) (by kernel_rfl) (by kernel_rfl) (fun _ _ _ h => h) (Or.inl ⟨by kernel_rfl, ?_⟩) hH ?_
      rotate_left
      · intro W hS
        go_simp
        first | done | with_reducible rfl
      simp only [Act.put, List.getElem_toArray, List.getElem_cons_succ, List.getElem_cons_zero, List.setIfInBounds_toArray, List.set_cons_zero, List.set_cons_succ]
      refine wpAnyH_take (i := 15) (v := ?_) rfl (by kernel_rfl) (by kernel_rfl) (by kernel_rfl) (fun _ _ _ h => h) (Or.inl ⟨by kernel_rfl, ?_⟩) hH ?_
      rotate_left
      · intro W hS
        go_simp
        first | done | with_reducible rfl
      simp only [Act.put, List.getElem_toArray, List.getElem_cons_succ, List.getElem_cons_zero, List.setIfInBounds_toArray, List.set_cons_zero, List.set_cons_succ]
      refine wpAnyH_take (i := 16) (v := ?_) rfl (by kernel_rfl) (by kernel_rfl) (by kernel_rfl) (fun _ _ _ h => h) (Or.inl ⟨by kernel_rfl, ?_⟩) hH ?_
      rotate_left
      · intro W hS
        go_simp
        first | done | with_reducible rfl
      simp only [Act.put, List.getElem_toArray, List.getElem_cons_succ, List.getElem_cons_zero, List.setIfInBounds_toArray, List.set_cons_zero, List.set_cons_succ]
      refine wpAnyH_take (i := 17) (v := ?_) rfl (by kernel_rfl) (by kernel_rfl) (by kernel_rfl) (fun _ _ _ h => h) (Or.inl ⟨by kernel_rfl, ?_⟩) hH ?_
      rotate_left
      · intro W hS
        go_simp
        first | done | with_reducible rfl
      simp only [Act.put, List.getElem_toArray, List.getElem_cons_succ, List.getElem_cons_zero, List.setIfInBounds_toArray, List.set_cons_zero, List.set_cons_succ]
      refine wpAnyH_take (i := 18) (v := ?_) rfl (by kernel_rfl) (by kernel_rfl) (by kernel_rfl) (fun _ _ _ h => h) (Or.inl ⟨by kernel_rfl, ?_⟩) hH ?_
      rotate_left
      · intro W hS
        go_simp
        first | done | with_reducible rfl
      simp only [Act.put, List.getElem_toArray, List.getElem_cons_succ, List.getElem_cons_zero, List.setIfInBounds_toArray, List.set_cons_zero, List.set_cons_succ]
      refine wpAnyH_take (i := 19) (v := .agg #[strV m, strV t, .int .i64 (z : Int), .slice ao1 L.length cp1]) rfl (by kernel_rfl) (by kernel_rfl) (by kernel_rfl) (fun _ _ _ h => h) (Or.inl ⟨by kernel_rfl, ?_⟩) hH ?_
      · intro W hS
        exact load_gives (x := .tmp 3) (by kernel_rfl) G1 (by kernel_rfl) hS.2.2.1 Tryz.underlying29 rfl infoReqS
      simp only [Act.put, List.getElem_toArray, List.getElem_cons_succ, List.getElem_cons_zero, List.setIfInBounds_toArray, List.set_cons_zero, List.set_cons_succ]
      refine wpAnyH_ready (rs := [20]) (by kernel_rfl) (by simp) ?_
      refine AllReadyH.cons rfl (fun K hK => ?_) AllReadyH.nil
      go_simp
      refine (CQ.out _ (RD1.out.below hH.1)).mono ?_
      rintro e w9 ⟨rfl, hb20⟩
      have hS1 := BoxB.below hH hb20
      clear hH
      refine hK.out _ _ hS1 (fun hH => ?_)
      clear hK K
      try simp only [Act.put, List.getElem_toArray, List.getElem_cons_succ, List.getElem_cons_zero, List.setIfInBounds_toArray, List.set_cons_zero, List.set_cons_succ]
      refine wpAnyH_take (i := 21) (v := ?_) rfl (by kernel_rfl) (by kernel_rfl) (by kernel_rfl) (fun _ _ _ h => h) (Or.inl ⟨by kernel_rfl, ?_⟩) hH ?_
      rotate_left
      · intro W hS
        go_simp
        first | done | with_reducible rfl
      simp only [Act.put, List.getElem_toArray, List.getElem_cons_succ, List.getElem_cons_zero, List.setIfInBounds_toArray, List.set_cons_zero, List.set_cons_succ]
      refine wpAnyH_take (i := 22) (v := ?_) rfl (by kernel_rfl) (by kernel_rfl) (by kernel_rfl) (fun _ _ _ h => h) (Or.inl ⟨by kernel_rfl, ?_⟩) hH ?_
      rotate_left
      · intro W hS
        go_simp
        first | done | with_reducible rfl
      simp only [Act.put, List.getElem_toArray, List.getElem_cons_succ, List.getElem_cons_zero, List.setIfInBounds_toArray, List.set_cons_zero, List.set_cons_succ]
      refine wpAnyH_take (i := 23) (v := ?_) rfl (by kernel_rfl) (by kernel_rfl) (by kernel_rfl) (fun _ _ _ h => h) (Or.inl ⟨by kernel_rfl, ?_⟩) hH ?_
      rotate_left
      · intro W hS
        go_simp
        first | done | with_reducible rfl
      simp only [Act.put, List.getElem_toArray, List.getElem_cons_succ, List.getElem_cons_zero, List.setIfInBounds_toArray, List.set_cons_zero, List.set_cons_succ]
      refine wpAnyH_done (by kernel_rfl) ?_ _
      have hbN := chain2 hb7 hb7.size hH.1
      have hmN := hm6.below hH.1
      have hg2N := hH.2.2.2
      clear hH hb7 hm6 hg1c hg2 RD1 RD2 CM CE
      go_wp2_with fail
      refine (C3.out _ (HR.out.below hbN) hmN).mono ?_
      rintro e w10 ⟨⟨ao3, cp3, rfl, rd3, hf3⟩, hb8⟩
      clear C3
      have hg2L := hg2N.lt
      have hg2a := hg2N.below hb8
      have hb9 := chain2 hbN hbN.size hb8
      have hf3' : ∀ a, ao3 = some a → G2 < a.block := fun a ha => Nat.lt_of_lt_of_le hg2L (hf3 a ha)
      clear hbN hmN hg2N hb8 hf3 hg2L
      obtain ⟨Wb, hWb⟩ : ∃ W, W = w10.alloc (.cells #[.int .i64 (st2 : Int), strV m2, .int .i64 (z2 : Int), .slice ao3 L2.length cp3] 41) := ⟨_, rfl⟩
      have hbW : Below w10.heap.size w10 Wb := by rw [hWb]; exact below_alloc _ _
      have hg3 : rowIs Wb w10.heap.size #[.int .i64 (st2 : Int), strV m2, .int .i64 (z2 : Int), .slice ao3 L2.length cp3] 41 := by rw [hWb]; exact rowIs_new _ _ _
      have hne3 : w10.heap.size ≠ G2 := by have := hg2a.lt; omega
      have hg2b := hg2a.below hbW
      have rd3b := rd3.below hbW
      have hb10 := chain2 hb9 hb9.size hbW
      clear hg2a rd3 hb9 hbW
      go_wp2_with fail
      rw [← hWb]
      clear hWb
      generalize w10.heap.size = G3 at *
      refine (C4.out _ (HR.out.below hb10)).mono ?_
      rintro e w11 ⟨⟨ao4, cp4, rfl, rd4, hf4⟩, hb11⟩
      clear C4
      have hf4' : ∀ a, ao4 = some a → G2 < a.block := fun a ha => Nat.lt_of_lt_of_le hg2b.lt (hf4 a ha)
      have hg2d := hg2b.below hb11
      have hg3b := hg3.below hb11
      have rd3c := rd3b.below hb11
      have hbQ := chain2 hb10 hb10.size hb11
      have hg2c := hg2d.setRow #[strV m2, strV [], .int .i64 (st2 : Int), .int .i64 (z2 : Int), .slice ao4 L2.length cp4]
      have hg3c := hg3b.setRow_other #[strV m2, strV [], .int .i64 (st2 : Int), .int .i64 (z2 : Int), .slice ao4 L2.length cp4] hne3
      have RD3 := hid (reads2_setRow rd3c hf3' #[strV m2, strV [], .int .i64 (st2 : Int), .int .i64 (z2 : Int), .slice ao4 L2.length cp4])
      have RD4 := hid (reads2_setRow rd4 hf4' #[strV m2, strV [], .int .i64 (st2 : Int), .int .i64 (z2 : Int), .slice ao4 L2.length cp4])
      have hb12 := below_setRow hbQ hwG2 #[strV m2, strV [], .int .i64 (st2 : Int), .int .i64 (z2 : Int), .slice ao4 L2.length cp4]
      clear hg2b hg3 rd3b hb10 hb11 hg3b rd3c hbQ rd4 hf3' hf4' hf4 hne3
      go_wp2_with (refine wpList_store_row rfl 35 _ _ rfl G2 _ rfl rfl 35 #[strV m, strV t, .int .i64 0, .int .i64 (z : Int), .slice ao2 L.length cp2] hg2d infoHdS rfl (one5 m2 [] (st2 : Int) (z2 : Int) ao4 L2.length cp4) ?_)
      clear hg2d
      rcases HOK2.out with ⟨rfl, hkf2, hml2, hrq2⟩ | hk02
      · have cq := fun W h => sRight_any (st2 : Int) m2 (z2 : Int) (.slice ao3 L2.length cp3) L2 W hml2 h hkf2
        rw [hrq2] at cq
        have CQ2 := hid cq
        clear cq hkf2 hml2 hrq2 HOK2
        have e5 : (n2 == n2) = true := by simp
        have e6 : (n2 != n2) = false := by simp
        refine wp_region_held_drew (S := BoxB (w11.setRow G2 #[strV m2, strV [], .int .i64 (st2 : Int), .int .i64 (z2 : Int), .slice ao4 L2.length cp4]) G3 #[.int .i64 (st2 : Int), strV m2, .int .i64 (z2 : Int), .slice ao3 L2.length cp3] 41 G2 #[strV m2, strV [], .int .i64 (st2 : Int), .int .i64 (z2 : Int), .slice ao4 L2.length cp4] 35 []) (by kernel_rfl) ⟨(Below.refl _ _).drew, Nat.le_refl _, hg3c, hg2c⟩ (fun hH => ?_)
        refine wpAnyH_take (i := 0) (v := ?_) rfl (by kernel_rfl) (by kernel_rfl) (by kernel_rfl) (fun _ _ _ h => h) (Or.inl ⟨by kernel_rfl, ?_⟩) hH ?_
        rotate_left
        · intro W hS
          go_simp
          first | done | with_reducible rfl
        simp only [Act.put, List.getElem_toArray, List.getElem_cons_succ, List.getElem_cons_zero, List.setIfInBounds_toArray, List.set_cons_zero, List.set_cons_succ]
        refine wpAnyH_take (i := 1) (v := ?_) rfl (by kernel_rfl) (by kernel_rfl) (by kernel_rfl) (fun _ _ _ h => h) (Or.inl ⟨by kernel_rfl, ?_⟩) hH ?_
        rotate_left
        · intro W hS
          go_simp
          first | done | with_reducible rfl
        simp only [Act.put, List.getElem_toArray, List.getElem_cons_succ, List.getElem_cons_zero, List.setIfInBounds_toArray, List.set_cons_zero, List.set_cons_succ]
        refine wpAnyH_take (i := 2) (v := ?_) rfl (by kernel_rfl) (by kernel_rfl) (by kernel_rfl) (fun _ _ _ h => h) (Or.inl ⟨by kernel_rfl, ?_⟩) hH ?_
        rotate_left
        · intro W hS
          go_simp
          first | done | with_reducible rfl
        simp only [Act.put, List.getElem_toArray, List.getElem_cons_succ, List.getElem_cons_zero, List.setIfInBounds_toArray, List.set_cons_zero, List.set_cons_succ]
        refine wpAnyH_take (i := 3) (v := ?_) rfl (by kernel_rfl) (by kernel_rfl) (by kernel_rfl) (fun _ _ _ h => h) (Or.inl ⟨by kernel_rfl, ?_⟩) hH ?_
        rotate_left
        · intro W hS
          go_simp
          first | done | with_reducible rfl
        simp only [Act.put, List.getElem_toArray, List.getElem_cons_succ, List.getElem_cons_zero, List.setIfInBounds_toArray, List.set_cons_zero, List.set_cons_succ]
        refine wpAnyH_take (i := 4) (v := ?_) rfl (by kernel_rfl) (by kernel_rfl) (by kernel_rfl) (fun _ _ _ h => h) (Or.inl ⟨by kernel_rfl, ?_⟩) hH ?_
        rotate_left
        · intro W hS
          go_simp
          first | done | with_reducible rfl
        simp only [Act.put, List.getElem_toArray, List.getElem_cons_succ, List.getElem_cons_zero, List.setIfInBounds_toArray, List.set_cons_zero, List.set_cons_succ]
        refine wpAnyH_take (i := 5) (v := ?_) rfl (by kernel_rfl) (by kernel_rfl) (by kernel_rfl) (fun _ _ _ h => h) (Or.inl ⟨by kernel_rfl, ?_⟩) hH ?_
        rotate_left
        · intro W hS
          go_simp
          first | done | with_reducible rfl
        simp only [Act.put, List.getElem_toArray, List.getElem_cons_succ, List.getElem_cons_zero, List.setIfInBounds_toArray, List.set_cons_zero, List.set_cons_succ]
        refine wpAnyH_take (i := 6) (v := ?_) rfl (by kernel_rfl) (by kernel_rfl) (by kernel_rfl) (fun _ _ _ h => h) (Or.inl ⟨by kernel_rfl, ?_⟩) hH ?_
        rotate_left
        · intro W hS
          go_simp
          first | done | with_reducible rfl
        simp only [Act.put, List.getElem_toArray, List.getElem_cons_succ, List.getElem_cons_zero, List.setIfInBounds_toArray, List.set_cons_zero, List.set_cons_succ]
        refine wpAnyH_take (i := 7) (v := ?_) rfl (by kernel_rfl) (by kernel_rfl) (by kernel_rfl) (fun _ _ _ h => h) (Or.inl ⟨by kernel_rfl, ?_⟩) hH ?_
        rotate_left
        · intro W hS
          go_simp
          first | done | with_reducible rfl
        simp only [Act.put, List.getElem_toArray, List.getElem_cons_succ, List.getElem_cons_zero, List.setIfInBounds_toArray, List.set_cons_zero, List.set_cons_succ]
        refine wpAnyH_take (i := 8) (v := ?_) rfl (by kernel_rfl) (by kernel_rfl) (by kernel_rfl) (fun _ _ _ h => h) (Or.inl ⟨by kernel_rfl, ?_⟩) hH ?_
        rotate_left
        · intro W hS
          go_simp
          first | done | with_reducible rfl
        simp only [Act.put, List.getElem_toArray, List.getElem_cons_succ, List.getElem_cons_zero, List.setIfInBounds_toArray, List.set_cons_zero, List.set_cons_succ]
        refine wpAnyH_take (i := 9) (v := .agg #[.int .i64 (st2 : Int), strV m2, .int .i64 (z2 : Int), .slice ao3 L2.length cp3]) rfl (by kernel_rfl) (by kernel_rfl) (by kernel_rfl) (fun _ _ _ h => h) (Or.inl ⟨by kernel_rfl, ?_⟩) hH ?_
        · intro W hS
          exact load_gives (x := .tmp 9) (by kernel_rfl) G3 (by kernel_rfl) hS.2.2.1 Tryz.underlying41 rfl infoResS
        simp only [Act.put, List.getElem_toArray, List.getElem_cons_succ, List.getElem_cons_zero, List.setIfInBounds_toArray, List.set_cons_zero, List.set_cons_succ]
        refine wpAnyH_take (i := 11) (v := .agg #[strV m2, strV [], .int .i64 (st2 : Int), .int .i64 (z2 : Int), .slice ao4 L2.length cp4]) rfl (by kernel_rfl) (by kernel_rfl) (by kernel_rfl) (fun _ _ _ h => h) (Or.inl ⟨by kernel_rfl, ?_⟩) hH ?_
        · intro W hS
          exact load_gives (x := .tmp 6) (by kernel_rfl) G2 (by kernel_rfl) hS.2.2.2 Tryz.underlying35 rfl infoHdS
        simp only [Act.put, List.getElem_toArray, List.getElem_cons_succ, List.getElem_cons_zero, List.setIfInBounds_toArray, List.set_cons_zero, List.set_cons_succ]
        refine wpAnyH_ready (rs := [10]) (by kernel_rfl) (by simp) ?_
        refine AllReadyH.cons rfl (fun K hK => ?_) AllReadyH.nil
        go_simp
        refine (CM2.out (.slice ao3 L2.length cp3) _ (RD3.out.below hH.1)).mono ?_
        rintro e w9 ⟨⟨aom1, cm1, rfl, rd17⟩, hb17⟩
        have hS1 := BoxB.below hH hb17
        clear hH
        refine hK.out _ _ hS1 (fun hH => ?_)
        clear hK K
        try simp only [Act.put, List.getElem_toArray, List.getElem_cons_succ, List.getElem_cons_zero, List.setIfInBounds_toArray, List.set_cons_zero, List.set_cons_succ]
        refine wpAnyH_ready (rs := [12]) (by kernel_rfl) (by simp) ?_
        refine AllReadyH.cons rfl (fun K hK => ?_) AllReadyH.nil
        go_simp
        refine (CE2.out _ _ _ _ _ rd17 (RD4.out.below hH.1)).mono ?_
        rintro e w9 ⟨rfl, hb20⟩
        have hS1 := BoxB.below hH hb20
        clear hH
        refine hK.out _ _ hS1 (fun hH => ?_)
        clear hK K
        try simp only [Act.put, List.getElem_toArray, List.getElem_cons_succ, List.getElem_cons_zero, List.setIfInBounds_toArray, List.set_cons_zero, List.set_cons_succ]
        refine wpAnyH_take (i := 13) (v := ?_) rfl (by kernel_rfl) (by kernel_rfl) (by kernel_rfl) (fun _ _ _ h => h) (Or.inl ⟨by kernel_rfl, ?_⟩) hH ?_
        rotate_left
        · intro W hS
          go_simp
          first | done | with_reducible rfl
        simp only [Act.put, List.getElem_toArray, List.getElem_cons_succ, List.getElem_cons_zero, List.setIfInBounds_toArray, List.set_cons_zero, List.set_cons_succ]
        refine wpAnyH_take (i := 14) (v := ?_) rfl (by kernel_rfl) (by kernel_rfl) (by kernel_rfl) (fun _ _ _ h => h) (Or.inl ⟨by kernel_rfl, ?_⟩) hH ?_
        rotate_left
        · intro W hS
          go_simp
          first | done | with_reducible rfl
        simp only [Act.put, List.getElem_toArray, List.getElem_cons_succ, List.getElem_cons_zero, List.setIfInBounds_toArray, List.set_cons_zero, List.set_cons_succ]
        refine wpAnyH_take (i := 15) (v := ?_) rfl (by kernel_rfl) (by kernel_rfl) (by kernel_rfl) (fun _ _ _ h => h) (Or.inl ⟨by kernel_rfl, ?_⟩) hH ?_
        rotate_left
        · intro W hS
          go_simp
          first | done | with_reducible rfl
        simp only [Act.put, List.getElem_toArray, List.getElem_cons_succ, List.getElem_cons_zero, List.setIfInBounds_toArray, List.set_cons_zero, List.set_cons_succ]
        refine wpAnyH_take (i := 16) (v := ?_) rfl (by kernel_rfl) (by kernel_rfl) (by kernel_rfl) (fun _ _ _ h => h) (Or.inl ⟨by kernel_rfl, ?_⟩) hH ?_
        rotate_left
        · intro W hS
          go_simp
          first | done | with_reducible rfl
        simp only [Act.put, List.getElem_toArray, List.getElem_cons_succ, List.getElem_cons_zero, List.setIfInBounds_toArray, List.set_cons_zero, List.set_cons_succ]
        refine wpAnyH_take (i := 17) (v := ?_) rfl (by kernel_rfl) (by kernel_rfl) (by kernel_rfl) (fun _ _ _ h => h) (Or.inl ⟨by kernel_rfl, ?_⟩) hH ?_
        rotate_left
        · intro W hS
          go_simp
          first | done | with_reducible rfl
        simp only [Act.put, List.getElem_toArray, List.getElem_cons_succ, List.getElem_cons_zero, List.setIfInBounds_toArray, List.set_cons_zero, List.set_cons_succ]
        refine wpAnyH_take (i := 18) (v := .agg #[.int .i64 (st2 : Int), strV m2, .int .i64 (z2 : Int), .slice ao3 L2.length cp3]) rfl (by kernel_rfl) (by kernel_rfl) (by kernel_rfl) (fun _ _ _ h => h) (Or.inl ⟨by kernel_rfl, ?_⟩) hH ?_
        · intro W hS
          exact load_gives (x := .tmp 9) (by kernel_rfl) G3 (by kernel_rfl) hS.2.2.1 Tryz.underlying41 rfl infoResS
        simp only [Act.put, List.getElem_toArray, List.getElem_cons_succ, List.getElem_cons_zero, List.setIfInBounds_toArray, List.set_cons_zero, List.set_cons_succ]
        refine wpAnyH_ready (rs := [19]) (by kernel_rfl) (by simp) ?_
        refine AllReadyH.cons rfl (fun K hK => ?_) AllReadyH.nil
        go_simp
        refine (CQ2.out _ (RD3.out.below hH.1)).mono ?_
        rintro e w9 ⟨rfl, hb20⟩
        have hS1 := BoxB.below hH hb20
        clear hH
        refine hK.out _ _ hS1 (fun hH => ?_)
        clear hK K
        try simp only [Act.put, List.getElem_toArray, List.getElem_cons_succ, List.getElem_cons_zero, List.setIfInBounds_toArray, List.set_cons_zero, List.set_cons_succ]
        refine wpAnyH_take (i := 20) (v := ?_) rfl (by kernel_rfl) (by kernel_rfl) (by kernel_rfl) (fun _ _ _ h => h) (Or.inl ⟨by kernel_rfl, ?_⟩) hH ?_
        rotate_left
        · intro W hS
          go_simp
          first | done | with_reducible rfl
        simp only [Act.put, List.getElem_toArray, List.getElem_cons_succ, List.getElem_cons_zero, List.setIfInBounds_toArray, List.set_cons_zero, List.set_cons_succ]
        refine wpAnyH_take (i := 21) (v := ?_) rfl (by kernel_rfl) (by kernel_rfl) (by kernel_rfl) (fun _ _ _ h => h) (Or.inl ⟨by kernel_rfl, ?_⟩) hH ?_
        rotate_left
        · intro W hS
          go_simp
          first | done | with_reducible rfl
        simp only [Act.put, List.getElem_toArray, List.getElem_cons_succ, List.getElem_cons_zero, List.setIfInBounds_toArray, List.set_cons_zero, List.set_cons_succ]
        refine wpAnyH_take (i := 22) (v := ?_) rfl (by kernel_rfl) (by kernel_rfl) (by kernel_rfl) (fun _ _ _ h => h) (Or.inl ⟨by kernel_rfl, ?_⟩) hH ?_
        rotate_left
        · intro W hS
          go_simp
          first | done | with_reducible rfl
        simp only [Act.put, List.getElem_toArray, List.getElem_cons_succ, List.getElem_cons_zero, List.setIfInBounds_toArray, List.set_cons_zero, List.set_cons_succ]
        refine wpAnyH_done (by kernel_rfl) ?_ _
        go_wp2_with fail
        go_ret
        exact ⟨rfl, chain2 hb12 hb12.size hH.1⟩
      · have e0 : (k2 == 0) = false := by simpa using hk02
        have e2 : (k2 != 0) = true := by simpa using hk02
        have e3 : (k2 == k2) = true := by simp
        have e4 : (k2 != k2) = false := by simp
        clear hk02 HOK2
        have e5 : (n2 == n2) = true := by simp
        have e6 : (n2 != n2) = false := by simp
        refine wp_region_held_drew (S := BoxB (w11.setRow G2 #[strV m2, strV [], .int .i64 (st2 : Int), .int .i64 (z2 : Int), .slice ao4 L2.length cp4]) G3 #[.int .i64 (st2 : Int), strV m2, .int .i64 (z2 : Int), .slice ao3 L2.length cp3] 41 G2 #[strV m2, strV [], .int .i64 (st2 : Int), .int .i64 (z2 : Int), .slice ao4 L2.length cp4] 35 []) (by kernel_rfl) ⟨(Below.refl _ _).drew, Nat.le_refl _, hg3c, hg2c⟩ (fun hH => ?_)
        refine wpAnyH_take (i := 0) (v := ?_) rfl (by kernel_rfl) (by kernel_rfl) (by kernel_rfl) (fun _ _ _ h => h) (Or.inl ⟨by kernel_rfl, ?_⟩) hH ?_
        rotate_left
        · intro W hS
          go_simp
          first | done | with_reducible rfl
        simp only [Act.put, List.getElem_toArray, List.getElem_cons_succ, List.getElem_cons_zero, List.setIfInBounds_toArray, List.set_cons_zero, List.set_cons_succ]
        refine wpAnyH_take (i := 1) (v := ?_) rfl (by kernel_rfl) (by kernel_rfl) (by kernel_rfl) (fun _ _ _ h => h) (Or.inl ⟨by kernel_rfl, ?_⟩) hH ?_
        rotate_left
        · intro W hS
          go_simp
          first | done | with_reducible rfl
        simp only [Act.put, List.getElem_toArray, List.getElem_cons_succ, List.getElem_cons_zero, List.setIfInBounds_toArray, List.set_cons_zero, List.set_cons_succ]
        refine wpAnyH_take (i := 2) (v := ?_) rfl (by kernel_rfl) (by kernel_rfl) (by kernel_rfl) (fun _ _ _ h => h) (Or.inl ⟨by kernel_rfl, ?_⟩) hH ?_
        rotate_left
        · intro W hS
          go_simp
          first | done | with_reducible rfl
        simp only [Act.put, List.getElem_toArray, List.getElem_cons_succ, List.getElem_cons_zero, List.setIfInBounds_toArray, List.set_cons_zero, List.set_cons_succ]
        refine wpAnyH_take (i := 3) (v := ?_) rfl (by kernel_rfl) (by kernel_rfl) (by kernel_rfl) (fun _ _ _ h => h) (Or.inl ⟨by kernel_rfl, ?_⟩) hH ?_
        rotate_left
        · intro W hS
          go_simp
          first | done | with_reducible rfl
        simp only [Act.put, List.getElem_toArray, List.getElem_cons_succ, List.getElem_cons_zero, List.setIfInBounds_toArray, List.set_cons_zero, List.set_cons_succ]
        refine wpAnyH_take (i := 4) (v := ?_) rfl (by kernel_rfl) (by kernel_rfl) (by kernel_rfl) (fun _ _ _ h => h) (Or.inl ⟨by kernel_rfl, ?_⟩) hH ?_
        rotate_left
        · intro W hS
          go_simp
          first | done | with_reducible rfl
        simp only [Act.put, List.getElem_toArray, List.getElem_cons_succ, List.getElem_cons_zero, List.setIfInBounds_toArray, List.set_cons_zero, List.set_cons_succ]
        refine wpAnyH_take (i := 5) (v := ?_) rfl (by kernel_rfl) (by kernel_rfl) (by kernel_rfl) (fun _ _ _ h => h) (Or.inl ⟨by kernel_rfl, ?_⟩) hH ?_
        rotate_left
        · intro W hS
          go_simp
          first | done | with_reducible rfl
        simp only [Act.put, List.getElem_toArray, List.getElem_cons_succ, List.getElem_cons_zero, List.setIfInBounds_toArray, List.set_cons_zero, List.set_cons_succ]
        refine wpAnyH_take (i := 6) (v := ?_) rfl (by kernel_rfl) (by kernel_rfl) (by kernel_rfl) (fun _ _ _ h => h) (Or.inl ⟨by kernel_rfl, ?_⟩) hH ?_
        rotate_left
        · intro W hS
          go_simp
          first | done | with_reducible rfl
        simp only [Act.put, List.getElem_toArray, List.getElem_cons_succ, List.getElem_cons_zero, List.setIfInBounds_toArray, List.set_cons_zero, List.set_cons_succ]
        refine wpAnyH_take (i := 7) (v := ?_) rfl (by kernel_rfl) (by kernel_rfl) (by kernel_rfl) (fun _ _ _ h => h) (Or.inl ⟨by kernel_rfl, ?_⟩) hH ?_
        rotate_left
        · intro W hS
          go_simp
          first | done | with_reducible rfl
        simp only [Act.put, List.getElem_toArray, List.getElem_cons_succ, List.getElem_cons_zero, List.setIfInBounds_toArray, List.set_cons_zero, List.set_cons_succ]
        refine wpAnyH_take (i := 8) (v := ?_) rfl (by kernel_rfl) (by kernel_rfl) (by kernel_rfl) (fun _ _ _ h => h) (Or.inl ⟨by kernel_rfl, ?_⟩) hH ?_
        rotate_left
        · intro W hS
          go_simp
          first | done | with_reducible rfl
        simp only [Act.put, List.getElem_toArray, List.getElem_cons_succ, List.getElem_cons_zero, List.setIfInBounds_toArray, List.set_cons_zero, List.set_cons_succ]
        refine wpAnyH_take (i := 9) (v := .agg #[.int .i64 (st2 : Int), strV m2, .int .i64 (z2 : Int), .slice ao3 L2.length cp3]) rfl (by kernel_rfl) (by kernel_rfl) (by kernel_rfl) (fun _ _ _ h => h) (Or.inl ⟨by kernel_rfl, ?_⟩) hH ?_
        · intro W hS
          exact load_gives (x := .tmp 9) (by kernel_rfl) G3 (by kernel_rfl) hS.2.2.1 Tryz.underlying41 rfl infoResS
        simp only [Act.put, List.getElem_toArray, List.getElem_cons_succ, List.getElem_cons_zero, List.setIfInBounds_toArray, List.set_cons_zero, List.set_cons_succ]
        refine wpAnyH_take (i := 11) (v := .agg #[strV m2, strV [], .int .i64 (st2 : Int), .int .i64 (z2 : Int), .slice ao4 L2.length cp4]) rfl (by kernel_rfl) (by kernel_rfl) (by kernel_rfl) (fun _ _ _ h => h) (Or.inl ⟨by kernel_rfl, ?_⟩) hH ?_
        · intro W hS
          exact load_gives (x := .tmp 6) (by kernel_rfl) G2 (by kernel_rfl) hS.2.2.2 Tryz.underlying35 rfl infoHdS
        simp only [Act.put, List.getElem_toArray, List.getElem_cons_succ, List.getElem_cons_zero, List.setIfInBounds_toArray, List.set_cons_zero, List.set_cons_succ]
        refine wpAnyH_ready (rs := [10]) (by kernel_rfl) (by simp) ?_
        refine AllReadyH.cons rfl (fun K hK => ?_) AllReadyH.nil
        go_simp
        refine (CM2.out (.slice ao3 L2.length cp3) _ (RD3.out.below hH.1)).mono ?_
        rintro e w9 ⟨⟨aom1, cm1, rfl, rd17⟩, hb17⟩
        have hS1 := BoxB.below hH hb17
        clear hH
        refine hK.out _ _ hS1 (fun hH => ?_)
        clear hK K
        try simp only [Act.put, List.getElem_toArray, List.getElem_cons_succ, List.getElem_cons_zero, List.setIfInBounds_toArray, List.set_cons_zero, List.set_cons_succ]
        refine wpAnyH_ready (rs := [12]) (by kernel_rfl) (by simp) ?_
        refine AllReadyH.cons rfl (fun K hK => ?_) AllReadyH.nil
        go_simp
        refine (CE2.out _ _ _ _ _ rd17 (RD4.out.below hH.1)).mono ?_
        rintro e w9 ⟨rfl, hb20⟩
        have hS1 := BoxB.below hH hb20
        clear hH
        refine hK.out _ _ hS1 (fun hH => ?_)
        clear hK K
        try simp only [Act.put, List.getElem_toArray, List.getElem_cons_succ, List.getElem_cons_zero, List.setIfInBounds_toArray, List.set_cons_zero, List.set_cons_succ]
        refine wpAnyH_take (i := 13) (v := ?_) rfl (by kernel_rfl) (by kernel_rfl) (by kernel_rfl) (fun _ _ _ h => h) (Or.inl ⟨by kernel_rfl, ?_⟩) hH ?_
        rotate_left
        · intro W hS
          go_simp
          first | done | with_reducible rfl
        simp only [Act.put, List.getElem_toArray, List.getElem_cons_succ, List.getElem_cons_zero, List.setIfInBounds_toArray, List.set_cons_zero, List.set_cons_succ]
        refine wpAnyH_take (i := 14) (v := ?_) rfl (by kernel_rfl) (by kernel_rfl) (by kernel_rfl) (fun _ _ _ h => h) (Or.inl ⟨by kernel_rfl, ?_⟩) hH ?_
        rotate_left
        · intro W hS
          go_simp
          first | done | with_reducible rfl
        simp only [Act.put, List.getElem_toArray, List.getElem_cons_succ, List.getElem_cons_zero, List.setIfInBounds_toArray, List.set_cons_zero, List.set_cons_succ]
        refine wpAnyH_take (i := 15) (v := ?_) rfl (by kernel_rfl) (by kernel_rfl) (by kernel_rfl) (fun _ _ _ h => h) (Or.inl ⟨by kernel_rfl, ?_⟩) hH ?_
        rotate_left
        · intro W hS
          go_simp
          first | done | with_reducible rfl
        simp only [Act.put, List.getElem_toArray, List.getElem_cons_succ, List.getElem_cons_zero, List.setIfInBounds_toArray, List.set_cons_zero, List.set_cons_succ]
        refine wpAnyH_take (i := 16) (v := ?_) rfl (by kernel_rfl) (by kernel_rfl) (by kernel_rfl) (fun _ _ _ h => h) (Or.inl ⟨by kernel_rfl, ?_⟩) hH ?_
        rotate_left
        · intro W hS
          go_simp
          first | done | with_reducible rfl
        simp only [Act.put, List.getElem_toArray, List.getElem_cons_succ, List.getElem_cons_zero, List.setIfInBounds_toArray, List.set_cons_zero, List.set_cons_succ]
        refine wpAnyH_take (i := 17) (v := ?_) rfl (by kernel_rfl) (by kernel_rfl) (by kernel_rfl) (fun _ _ _ h => h) (Or.inl ⟨by kernel_rfl, ?_⟩) hH ?_
        rotate_left
        · intro W hS
          go_simp
          first | done | with_reducible rfl
        simp only [Act.put, List.getElem_toArray, List.getElem_cons_succ, List.getElem_cons_zero, List.setIfInBounds_toArray, List.set_cons_zero, List.set_cons_succ]
        refine wpAnyH_take (i := 18) rfl (by kernel_rfl) (by kernel_rfl) (by kernel_rfl) (fun _ _ _ h => h) (Or.inr ⟨by kernel_rfl, rfl⟩) hH ?_
        simp only [Act.put, List.getElem_toArray, List.getElem_cons_succ, List.getElem_cons_zero, List.setIfInBounds_toArray, List.set_cons_zero, List.set_cons_succ]
        refine wpAnyH_take (i := 19) rfl (by kernel_rfl) (by kernel_rfl) (by kernel_rfl) (fun _ _ _ h => h) (Or.inr ⟨by kernel_rfl, rfl⟩) hH ?_
        simp only [Act.put, List.getElem_toArray, List.getElem_cons_succ, List.getElem_cons_zero, List.setIfInBounds_toArray, List.set_cons_zero, List.set_cons_succ]
        refine wpAnyH_take (i := 20) (v := ?_) rfl (by kernel_rfl) (by kernel_rfl) (by kernel_rfl) (fun _ _ _ h => h) (Or.inl ⟨by kernel_rfl, ?_⟩) hH ?_
        rotate_left
        · intro W hS
          go_simp
          first | done | with_reducible rfl
        simp only [Act.put, List.getElem_toArray, List.getElem_cons_succ, List.getElem_cons_zero, List.setIfInBounds_toArray, List.set_cons_zero, List.set_cons_succ]
        refine wpAnyH_take (i := 21) (v := ?_) rfl (by kernel_rfl) (by kernel_rfl) (by kernel_rfl) (fun _ _ _ h => h) (Or.inl ⟨by kernel_rfl, ?_⟩) hH ?_
        rotate_left
        · intro W hS
          go_simp
          first | done | with_reducible rfl
        simp only [Act.put, List.getElem_toArray, List.getElem_cons_succ, List.getElem_cons_zero, List.setIfInBounds_toArray, List.set_cons_zero, List.set_cons_succ]
        refine wpAnyH_take (i := 22) (v := ?_) rfl (by kernel_rfl) (by kernel_rfl) (by kernel_rfl) (fun _ _ _ h => h) (Or.inl ⟨by kernel_rfl, ?_⟩) hH ?_
        rotate_left
        · intro W hS
          go_simp
          first | done | with_reducible rfl
        simp only [Act.put, List.getElem_toArray, List.getElem_cons_succ, List.getElem_cons_zero, List.setIfInBounds_toArray, List.set_cons_zero, List.set_cons_succ]
        refine wpAnyH_done (by kernel_rfl) ?_ _
        go_wp2_with fail
        go_ret
        exact ⟨rfl, chain2 hb12 hb12.size hH.1⟩
    · have e0 : (k == 0) = false := by simpa using hk0
      have e2 : (k != 0) = true := by simpa using hk0
      have e3 : (k == k) = true := by simp
      have e4 : (k != k) = false := by simp
      clear hk0 HOK
      have e5 : (n == n) = true := by simp
      have e6 : (n != n) = false := by simp
      refine wp_region_held_drew (S := BoxB W G1 #[strV m, strV t, .int .i64 (z : Int), .slice ao1 L.length cp1] 29 G2 #[strV m, strV t, .int .i64 0, .int .i64 (z : Int), .slice ao2 L.length cp2] 35 []) (by kernel_rfl) ⟨(Below.refl _ _).drew, Nat.le_refl _, hg1c, hg2⟩ (fun hH => ?_)
      refine wpAnyH_take (i := 0) (v := ?_) rfl (by kernel_rfl) (by kernel_rfl) (by kernel_rfl) (fun _ _ _ h => h) (Or.inl ⟨by kernel_rfl, ?_⟩) hH ?_
      rotate_left
      · intro W hS
        go_simp
        first | done | with_reducible rfl
      simp only [Act.put, List.getElem_toArray, List.getElem_cons_succ, List.getElem_cons_zero, List.setIfInBounds_toArray, List.set_cons_zero, List.set_cons_succ]
      refine wpAnyH_take (i := 1) (v := ?_) rfl (by kernel_rfl) (by kernel_rfl) (by kernel_rfl) (fun _ _ _ h => h) (Or.inl ⟨by kernel_rfl, ?_⟩) hH ?_
      rotate_left
      · intro W hS
        go_simp
        first | done | with_reducible rfl
      simp only [Act.put, List.getElem_toArray, List.getElem_cons_succ, List.getElem_cons_zero, List.setIfInBounds_toArray, List.set_cons_zero, List.set_cons_succ]
      refine wpAnyH_take (i := 2) (v := ?_) rfl (by kernel_rfl) (by kernel_rfl) (by kernel_rfl) (fun _ _ _ h => h) (Or.inl ⟨by kernel_rfl, ?_⟩) hH ?_
      rotate_left
      · intro W hS
        go_simp
        first | done | with_reducible rfl
      simp only [Act.put, List.getElem_toArray, List.getElem_cons_succ, List.getElem_cons_zero, List.setIfInBounds_toArray, List.set_cons_zero, List.set_cons_succ]
      refine wpAnyH_take (i := 3) (v := ?_) rfl (by kernel_rfl) (by kernel_rfl) (by kernel_rfl) (fun _ _ _ h => h) (Or.inl ⟨by kernel_rfl, ?_⟩) hH ?_
      rotate_left
      · intro W hS
        go_simp
        first | done | with_reducible rfl
      simp only [Act.put, List.getElem_toArray, List.getElem_cons_succ, List.getElem_cons_zero, List.setIfInBounds_toArray, List.set_cons_zero, List.set_cons_succ]
      refine wpAnyH_take (i := 4) (v := ?_) rfl (by kernel_rfl) (by kernel_rfl) (by kernel_rfl) (fun _ _ _ h => h) (Or.inl ⟨by kernel_rfl, ?_⟩) hH ?_
      rotate_left
      · intro W hS
        go_simp
        first | done | with_reducible rfl
      simp only [Act.put, List.getElem_toArray, List.getElem_cons_succ, List.getElem_cons_zero, List.setIfInBounds_toArray, List.set_cons_zero, List.set_cons_succ]
      refine wpAnyH_take (i := 5) (v := ?_) rfl (by kernel_rfl) (by kernel_rfl) (by kernel_rfl) (fun _ _ _ h => h) (Or.inl ⟨by kernel_rfl, ?_⟩) hH ?_
      rotate_left
      · intro W hS
        go_simp
        first | done | with_reducible rfl
      simp only [Act.put, List.getElem_toArray, List.getElem_cons_succ, List.getElem_cons_zero, List.setIfInBounds_toArray, List.set_cons_zero, List.set_cons_succ]
      refine wpAnyH_take (i := 6) (v := ?_) rfl (by kernel_rfl) (by kernel_rfl) (by kernel_rfl) (fun _ _ _ h => h) (Or.inl ⟨by kernel_rfl, ?_⟩) hH ?_
      rotate_left
      · intro W hS
        go_simp
        first | done | with_reducible rfl
      simp only [Act.put, List.getElem_toArray, List.getElem_cons_succ, List.getElem_cons_zero, List.setIfInBounds_toArray, List.set_cons_zero, List.set_cons_succ]
      refine wpAnyH_take (i := 7) (v := ?_) rfl (by kernel_rfl) (by kernel_rfl) (by kernel_rfl) (fun _ _ _ h => h) (Or.inl ⟨by kernel_rfl, ?_⟩) hH ?_
      rotate_left
      · intro W hS
        go_simp
        first | done | with_reducible rfl
      simp only [Act.put, List.getElem_toArray, List.getElem_cons_succ, List.getElem_cons_zero, List.setIfInBounds_toArray, List.set_cons_zero, List.set_cons_succ]
      refine wpAnyH_take (i := 8) (v := ?_) rfl (by kernel_rfl) (by kernel_rfl) (by kernel_rfl) (fun _ _ _ h => h) (Or.inl ⟨by kernel_rfl, ?_⟩) hH ?_
      rotate_left
      · intro W hS
        go_simp
        first | done | with_reducible rfl
      simp only [Act.put, List.getElem_toArray, List.getElem_cons_succ, List.getElem_cons_zero, List.setIfInBounds_toArray, List.set_cons_zero, List.set_cons_succ]
      refine wpAnyH_take (i := 9) (v := .agg #[strV m, strV t, .int .i64 (z : Int), .slice ao1 L.length cp1]) rfl (by kernel_rfl) (by kernel_rfl) (by kernel_rfl) (fun _ _ _ h => h) (Or.inl ⟨by kernel_rfl, ?_⟩) hH ?_
      · intro W hS
        exact load_gives (x := .tmp 3) (by kernel_rfl) G1 (by kernel_rfl) hS.2.2.1 Tryz.underlying29 rfl infoReqS
      simp only [Act.put, List.getElem_toArray, List.getElem_cons_succ, List.getElem_cons_zero, List.setIfInBounds_toArray, List.set_cons_zero, List.set_cons_succ]
      refine wpAnyH_take (i := 11) (v := .agg #[strV m, strV t, .int .i64 0, .int .i64 (z : Int), .slice ao2 L.length cp2]) rfl (by kernel_rfl) (by kernel_rfl) (by kernel_rfl) (fun _ _ _ h => h) (Or.inl ⟨by kernel_rfl, ?_⟩) hH ?_
      · intro W hS
        exact load_gives (x := .tmp 6) (by kernel_rfl) G2 (by kernel_rfl) hS.2.2.2 Tryz.underlying35 rfl infoHdS
      simp only [Act.put, List.getElem_toArray, List.getElem_cons_succ, List.getElem_cons_zero, List.setIfInBounds_toArray, List.set_cons_zero, List.set_cons_succ]
      refine wpAnyH_ready (rs := [10]) (by kernel_rfl) (by simp) ?_
      refine AllReadyH.cons rfl (fun K hK => ?_) AllReadyH.nil
      go_simp
      refine (CM.out (.slice ao1 L.length cp1) _ (RD1.out.below hH.1)).mono ?_
      rintro e w9 ⟨⟨aom1, cm1, rfl, rd17⟩, hb17⟩
      have hS1 := BoxB.below hH hb17
      clear hH
      refine hK.out _ _ hS1 (fun hH => ?_)
      clear hK K
      try simp only [Act.put, List.getElem_toArray, List.getElem_cons_succ, List.getElem_cons_zero, List.setIfInBounds_toArray, List.set_cons_zero, List.set_cons_succ]
      refine wpAnyH_ready (rs := [12]) (by kernel_rfl) (by simp) ?_
      refine AllReadyH.cons rfl (fun K hK => ?_) AllReadyH.nil
      go_simp
      refine (CE.out _ _ _ _ _ rd17 (RD2.out.below hH.1)).mono ?_
      rintro e w9 ⟨rfl, hb20⟩
      have hS1 := BoxB.below hH hb20
      clear hH
      refine hK.out _ _ hS1 (fun hH => ?_)
      clear hK K
      try simp only [Act.put, List.getElem_toArray, List.getElem_cons_succ, List.getElem_cons_zero, List.setIfInBounds_toArray, List.set_cons_zero, List.set_cons_succ]
      refine wpAnyH_take (i := 13) (v := ?_) rfl (by kernel_rfl) (by kernel_rfl) (by kernel_rfl) (fun _ _ _ h => h) (Or.inl ⟨by kernel_rfl, ?_⟩) hH ?_
      rotate_left
      · intro W hS
        go_simp
        first | done | with_reducible rfl
      simp only [Act.put, List.getElem_toArray, List.getElem_cons_succ, List.getElem_cons_zero, List.setIfInBounds_toArray, List.set_cons_zero, List.set_cons_succ]
      refine wpAnyH_take (i := 14) (v := ?_) rfl (by kernel_rfl) (by kernel_rfl) (by kernel_rfl) (fun _ _ _ h => h) (Or.inl ⟨by kernel_rfl, ?_⟩) hH ?_
      rotate_left
      · intro W hS
        go_simp
        first | done | with_reducible rfl
      simp only [Act.put, List.getElem_toArray, List.getElem_cons_succ, List.getElem_cons_zero, List.setIfInBounds_toArray, List.set_cons_zero, List.set_cons_succ]
      refine wpAnyH_take (i := 15) (v := ?_) rfl (by kernel_rfl) (by kernel_rfl) (by kernel_rfl) (fun _ _ _ h => h) (Or.inl ⟨by kernel_rfl, ?_⟩) hH ?_
      rotate_left
      · intro W hS
        go_simp
        first | done | with_reducible rfl
      simp only [Act.put, List.getElem_toArray, List.getElem_cons_succ, List.getElem_cons_zero, List.setIfInBounds_toArray, List.set_cons_zero, List.set_cons_succ]
      refine wpAnyH_take (i := 16) (v := ?_) rfl (by kernel_rfl) (by kernel_rfl) (by kernel_rfl) (fun _ _ _ h => h) (Or.inl ⟨by kernel_rfl, ?_⟩) hH ?_
      rotate_left
      · intro W hS
        go_simp
        first | done | with_reducible rfl
      simp only [Act.put, List.getElem_toArray, List.getElem_cons_succ, List.getElem_cons_zero, List.setIfInBounds_toArray, List.set_cons_zero, List.set_cons_succ]
      refine wpAnyH_take (i := 17) (v := ?_) rfl (by kernel_rfl) (by kernel_rfl) (by kernel_rfl) (fun _ _ _ h => h) (Or.inl ⟨by kernel_rfl, ?_⟩) hH ?_
      rotate_left
      · intro W hS
        go_simp
        first | done | with_reducible rfl
      simp only [Act.put, List.getElem_toArray, List.getElem_cons_succ, List.getElem_cons_zero, List.setIfInBounds_toArray, List.set_cons_zero, List.set_cons_succ]
      refine wpAnyH_take (i := 18) (v := ?_) rfl (by kernel_rfl) (by kernel_rfl) (by kernel_rfl) (fun _ _ _ h => h) (Or.inl ⟨by kernel_rfl, ?_⟩) hH ?_
      rotate_left
      · intro W hS
        go_simp
        first | done | with_reducible rfl
      simp only [Act.put, List.getElem_toArray, List.getElem_cons_succ, List.getElem_cons_zero, List.setIfInBounds_toArray, List.set_cons_zero, List.set_cons_succ]
      refine wpAnyH_take (i := 19) rfl (by kernel_rfl) (by kernel_rfl) (by kernel_rfl) (fun _ _ _ h => h) (Or.inr ⟨by kernel_rfl, rfl⟩) hH ?_
      simp only [Act.put, List.getElem_toArray, List.getElem_cons_succ, List.getElem_cons_zero, List.setIfInBounds_toArray, List.set_cons_zero, List.set_cons_succ]
      refine wpAnyH_take (i := 20) rfl (by kernel_rfl) (by kernel_rfl) (by kernel_rfl) (fun _ _ _ h => h) (Or.inr ⟨by kernel_rfl, rfl⟩) hH ?_
      simp only [Act.put, List.getElem_toArray, List.getElem_cons_succ, List.getElem_cons_zero, List.setIfInBounds_toArray, List.set_cons_zero, List.set_cons_succ]
      refine wpAnyH_take (i := 21) rfl (by kernel_rfl) (by kernel_rfl) (by kernel_rfl) (fun _ _ _ h => h) (Or.inr ⟨by kernel_rfl, rfl⟩) hH ?_
      simp only [Act.put, List.getElem_toArray, List.getElem_cons_succ, List.getElem_cons_zero, List.setIfInBounds_toArray, List.set_cons_zero, List.set_cons_succ]
      refine wpAnyH_take (i := 22) (v := ?_) rfl (by kernel_rfl) (by kernel_rfl) (by kernel_rfl) (fun _ _ _ h => h) (Or.inl ⟨by kernel_rfl, ?_⟩) hH ?_
      rotate_left
      · intro W hS
        go_simp
        first | done | with_reducible rfl
      simp only [Act.put, List.getElem_toArray, List.getElem_cons_succ, List.getElem_cons_zero, List.setIfInBounds_toArray, List.set_cons_zero, List.set_cons_succ]
      refine wpAnyH_take (i := 23) (v := ?_) rfl (by kernel_rfl) (by kernel_rfl) (by kernel_rfl) (fun _ _ _ h => h) (Or.inl ⟨by kernel_rfl, ?_⟩) hH ?_
      rotate_left
      · intro W hS
        go_simp
        first | done | with_reducible rfl
      simp only [Act.put, List.getElem_toArray, List.getElem_cons_succ, List.getElem_cons_zero, List.setIfInBounds_toArray, List.set_cons_zero, List.set_cons_succ]
      refine wpAnyH_done (by kernel_rfl) ?_ _
      have hbN := chain2 hb7 hb7.size hH.1
      have hmN := hm6.below hH.1
      have hg2N := hH.2.2.2
      clear hH hb7 hm6 hg1c hg2 RD1 RD2 CM CE
      go_wp2_with fail
      refine (C3.out _ (HR.out.below hbN) hmN).mono ?_
      rintro e w10 ⟨⟨ao3, cp3, rfl, rd3, hf3⟩, hb8⟩
      clear C3
      have hg2L := hg2N.lt
      have hg2a := hg2N.below hb8
      have hb9 := chain2 hbN hbN.size hb8
      have hf3' : ∀ a, ao3 = some a → G2 < a.block := fun a ha => Nat.lt_of_lt_of_le hg2L (hf3 a ha)
      clear hbN hmN hg2N hb8 hf3 hg2L
      obtain ⟨Wb, hWb⟩ : ∃ W, W = w10.alloc (.cells #[.int .i64 (st2 : Int), strV m2, .int .i64 (z2 : Int), .slice ao3 L2.length cp3] 41) := ⟨_, rfl⟩
      have hbW : Below w10.heap.size w10 Wb := by rw [hWb]; exact below_alloc _ _
      have hg3 : rowIs Wb w10.heap.size #[.int .i64 (st2 : Int), strV m2, .int .i64 (z2 : Int), .slice ao3 L2.length cp3] 41 := by rw [hWb]; exact rowIs_new _ _ _
      have hne3 : w10.heap.size ≠ G2 := by have := hg2a.lt; omega
      have hg2b := hg2a.below hbW
      have rd3b := rd3.below hbW
      have hb10 := chain2 hb9 hb9.size hbW
      clear hg2a rd3 hb9 hbW
      go_wp2_with fail
      rw [← hWb]
      clear hWb
      generalize w10.heap.size = G3 at *
      refine (C4.out _ (HR.out.below hb10)).mono ?_
      rintro e w11 ⟨⟨ao4, cp4, rfl, rd4, hf4⟩, hb11⟩
      clear C4
      have hf4' : ∀ a, ao4 = some a → G2 < a.block := fun a ha => Nat.lt_of_lt_of_le hg2b.lt (hf4 a ha)
      have hg2d := hg2b.below hb11
      have hg3b := hg3.below hb11
      have rd3c := rd3b.below hb11
      have hbQ := chain2 hb10 hb10.size hb11
      have hg2c := hg2d.setRow #[strV m2, strV [], .int .i64 (st2 : Int), .int .i64 (z2 : Int), .slice ao4 L2.length cp4]
      have hg3c := hg3b.setRow_other #[strV m2, strV [], .int .i64 (st2 : Int), .int .i64 (z2 : Int), .slice ao4 L2.length cp4] hne3
      have RD3 := hid (reads2_setRow rd3c hf3' #[strV m2, strV [], .int .i64 (st2 : Int), .int .i64 (z2 : Int), .slice ao4 L2.length cp4])
      have RD4 := hid (reads2_setRow rd4 hf4' #[strV m2, strV [], .int .i64 (st2 : Int), .int .i64 (z2 : Int), .slice ao4 L2.length cp4])
      have hb12 := below_setRow hbQ hwG2 #[strV m2, strV [], .int .i64 (st2 : Int), .int .i64 (z2 : Int), .slice ao4 L2.length cp4]
      clear hg2b hg3 rd3b hb10 hb11 hg3b rd3c hbQ rd4 hf3' hf4' hf4 hne3
      go_wp2_with (refine wpList_store_row rfl 35 _ _ rfl G2 _ rfl rfl 35 #[strV m, strV t, .int .i64 0, .int .i64 (z : Int), .slice ao2 L.length cp2] hg2d infoHdS rfl (one5 m2 [] (st2 : Int) (z2 : Int) ao4 L2.length cp4) ?_)
      clear hg2d
      rcases HOK2.out with ⟨rfl, hkf2, hml2, hrq2⟩ | hk02
      · have cq := fun W h => sRight_any (st2 : Int) m2 (z2 : Int) (.slice ao3 L2.length cp3) L2 W hml2 h hkf2
        rw [hrq2] at cq
        have CQ2 := hid cq
        clear cq hkf2 hml2 hrq2 HOK2
        have e5 : (n2 == n2) = true := by simp
        have e6 : (n2 != n2) = false := by simp
        refine wp_region_held_drew (S := BoxB (w11.setRow G2 #[strV m2, strV [], .int .i64 (st2 : Int), .int .i64 (z2 : Int), .slice ao4 L2.length cp4]) G3 #[.int .i64 (st2 : Int), strV m2, .int .i64 (z2 : Int), .slice ao3 L2.length cp3] 41 G2 #[strV m2, strV [], .int .i64 (st2 : Int), .int .i64 (z2 : Int), .slice ao4 L2.length cp4] 35 []) (by kernel_rfl) ⟨(Below.refl _ _).drew, Nat.le_refl _, hg3c, hg2c⟩ (fun hH => ?_)
        refine wpAnyH_take (i := 0) (v := ?_) rfl (by kernel_rfl) (by kernel_rfl) (by kernel_rfl) (fun _ _ _ h => h) (Or.inl ⟨by kernel_rfl, ?_⟩) hH ?_
        rotate_left
        · intro W hS
          go_simp
          first | done | with_reducible rfl
        simp only [Act.put, List.getElem_toArray, List.getElem_cons_succ, List.getElem_cons_zero, List.setIfInBounds_toArray, List.set_cons_zero, List.set_cons_succ]
        refine wpAnyH_take (i := 1) (v := ?_) rfl (by kernel_rfl) (by kernel_rfl) (by kernel_rfl) (fun _ _ _ h => h) (Or.inl ⟨by kernel_rfl, ?_⟩) hH ?_
        rotate_left
        · intro W hS
          go_simp
          first | done | with_reducible rfl
        simp only [Act.put, List.getElem_toArray, List.getElem_cons_succ, List.getElem_cons_zero, List.setIfInBounds_toArray, List.set_cons_zero, List.set_cons_succ]
        refine wpAnyH_take (i := 2) (v := ?_) rfl (by kernel_rfl) (by kernel_rfl) (by kernel_rfl) (fun _ _ _ h => h) (Or.inl ⟨by kernel_rfl, ?_⟩) hH ?_
        rotate_left
        · intro W hS
          go_simp
          first | done | with_reducible rfl
        simp only [Act.put, List.getElem_toArray, List.getElem_cons_succ, List.getElem_cons_zero, List.setIfInBounds_toArray, List.set_cons_zero, List.set_cons_succ]
        refine wpAnyH_take (i := 3) (v := ?_) rfl (by kernel_rfl) (by kernel_rfl) (by kernel_rfl) (fun _ _ _ h => h) (Or.inl ⟨by kernel_rfl, ?_⟩) hH ?_
        rotate_left
        · intro W hS
          go_simp
          first | done | with_reducible rfl
        simp only [Act.put, List.getElem_toArray, List.getElem_cons_succ, List.getElem_cons_zero, List.setIfInBounds_toArray, List.set_cons_zero, List.set_cons_succ]
        refine wpAnyH_take (i := 4) (v := ?_) rfl (by kernel_rfl) (by kernel_rfl) (by kernel_rfl) (fun _ _ _ h => h) (Or.inl ⟨by kernel_rfl, ?_⟩) hH ?_
        rotate_left
        · intro W hS
          go_simp
          first | done | with_reducible rfl
        simp only [Act.put, List.getElem_toArray, List.getElem_cons_succ, List.getElem_cons_zero, List.setIfInBounds_toArray, List.set_cons_zero, List.set_cons_succ]
        refine wpAnyH_take (i := 5) (v := ?_) rfl (by kernel_rfl) (by kernel_rfl) (by kernel_rfl) (fun _ _ _ h => h) (Or.inl ⟨by kernel_rfl, ?_⟩) hH ?_
        rotate_left
        · intro W hS
          go_simp
          first | done | with_reducible rfl
        simp only [Act.put, List.getElem_toArray, List.getElem_cons_succ, List.getElem_cons_zero, List.setIfInBounds_toArray, List.set_cons_zero, List.set_cons_succ]
        refine wpAnyH_take (i := 6) (v := ?_) rfl (by kernel_rfl) (by kernel_rfl) (by kernel_rfl) (fun _ _ _ h => h) (Or.inl ⟨by kernel_rfl, ?_⟩) hH ?_
        rotate_left
        · intro W hS
          go_simp
          first | done | with_reducible rfl
        simp only [Act.put, List.getElem_toArray, List.getElem_cons_succ, List.getElem_cons_zero, List.setIfInBounds_toArray, List.set_cons_zero, List.set_cons_succ]
        refine wpAnyH_take (i := 7) (v := ?_) rfl (by kernel_rfl) (by kernel_rfl) (by kernel_rfl) (fun _ _ _ h => h) (Or.inl ⟨by kernel_rfl, ?_⟩) hH ?_
        rotate_left
        · intro W hS
          go_simp
          first | done | with_reducible rfl
        simp only [Act.put, List.getElem_toArray, List.getElem_cons_succ, List.getElem_cons_zero, List.setIfInBounds_toArray, List.set_cons_zero, List.set_cons_succ]
        refine wpAnyH_take (i := 8) (v := ?_) rfl (by kernel_rfl) (by kernel_rfl) (by kernel_rfl) (fun _ _ _ h => h) (Or.inl ⟨by kernel_rfl, ?_⟩) hH ?_
        rotate_left
        · intro W hS
          go_simp
          first | done | with_reducible rfl
        simp only [Act.put, List.getElem_toArray, List.getElem_cons_succ, List.getElem_cons_zero, List.setIfInBounds_toArray, List.set_cons_zero, List.set_cons_succ]
        refine wpAnyH_take (i := 9) (v := .agg #[.int .i64 (st2 : Int), strV m2, .int .i64 (z2 : Int), .slice ao3 L2.length cp3]) rfl (by kernel_rfl) (by kernel_rfl) (by kernel_rfl) (fun _ _ _ h => h) (Or.inl ⟨by kernel_rfl, ?_⟩) hH ?_
        · intro W hS
          exact load_gives (x := .tmp 9) (by kernel_rfl) G3 (by kernel_rfl) hS.2.2.1 Tryz.underlying41 rfl infoResS
        simp only [Act.put, List.getElem_toArray, List.getElem_cons_succ, List.getElem_cons_zero, List.setIfInBounds_toArray, List.set_cons_zero, List.set_cons_succ]
        refine wpAnyH_take (i := 11) (v := .agg #[strV m2, strV [], .int .i64 (st2 : Int), .int .i64 (z2 : Int), .slice ao4 L2.length cp4]) rfl (by kernel_rfl) (by kernel_rfl) (by kernel_rfl) (fun _ _ _ h => h) (Or.inl ⟨by kernel_rfl, ?_⟩) hH ?_
        · intro W hS
          exact load_gives (x := .tmp 6) (by kernel_rfl) G2 (by kernel_rfl) hS.2.2.2 Tryz.underlying35 rfl infoHdS
        simp only [Act.put, List.getElem_toArray, List.getElem_cons_succ, List.getElem_cons_zero, List.setIfInBounds_toArray, List.set_cons_zero, List.set_cons_succ]
        refine wpAnyH_ready (rs := [10]) (by kernel_rfl) (by simp) ?_
        refine AllReadyH.cons rfl (fun K hK => ?_) AllReadyH.nil
        go_simp
        refine (CM2.out (.slice ao3 L2.length cp3) _ (RD3.out.below hH.1)).mono ?_
        rintro e w9 ⟨⟨aom1, cm1, rfl, rd17⟩, hb17⟩
        have hS1 := BoxB.below hH hb17
        clear hH
        refine hK.out _ _ hS1 (fun hH => ?_)
        clear hK K
        try simp only [Act.put, List.getElem_toArray, List.getElem_cons_succ, List.getElem_cons_zero, List.setIfInBounds_toArray, List.set_cons_zero, List.set_cons_succ]
        refine wpAnyH_ready (rs := [12]) (by kernel_rfl) (by simp) ?_
        refine AllReadyH.cons rfl (fun K hK => ?_) AllReadyH.nil
        go_simp
        refine (CE2.out _ _ _ _ _ rd17 (RD4.out.below hH.1)).mono ?_
        rintro e w9 ⟨rfl, hb20⟩
        have hS1 := BoxB.below hH hb20
        clear hH
        refine hK.out _ _ hS1 (fun hH => ?_)
        clear hK K
        try simp only [Act.put, List.getElem_toArray, List.getElem_cons_succ, List.getElem_cons_zero, List.setIfInBounds_toArray, List.set_cons_zero, List.set_cons_succ]
        refine wpAnyH_take (i := 13) (v := ?_) rfl (by kernel_rfl) (by kernel_rfl) (by kernel_rfl) (fun _ _ _ h => h) (Or.inl ⟨by kernel_rfl, ?_⟩) hH ?_
        rotate_left
        · intro W hS
          go_simp
          first | done | with_reducible rfl
        simp only [Act.put, List.getElem_toArray, List.getElem_cons_succ, List.getElem_cons_zero, List.setIfInBounds_toArray, List.set_cons_zero, List.set_cons_succ]
        refine wpAnyH_take (i := 14) (v := ?_) rfl (by kernel_rfl) (by kernel_rfl) (by kernel_rfl) (fun _ _ _ h => h) (Or.inl ⟨by kernel_rfl, ?_⟩) hH ?_
        rotate_left
        · intro W hS
          go_simp
          first | done | with_reducible rfl
        simp only [Act.put, List.getElem_toArray, List.getElem_cons_succ, List.getElem_cons_zero, List.setIfInBounds_toArray, List.set_cons_zero, List.set_cons_succ]
        refine wpAnyH_take (i := 15) (v := ?_) rfl (by kernel_rfl) (by kernel_rfl) (by kernel_rfl) (fun _ _ _ h => h) (Or.inl ⟨by kernel_rfl, ?_⟩) hH ?_
        rotate_left
        · intro W hS
          go_simp
          first | done | with_reducible rfl
        simp only [Act.put, List.getElem_toArray, List.getElem_cons_succ, List.getElem_cons_zero, List.setIfInBounds_toArray, List.set_cons_zero, List.set_cons_succ]
        refine wpAnyH_take (i := 16) (v := ?_) rfl (by kernel_rfl) (by kernel_rfl) (by kernel_rfl) (fun _ _ _ h => h) (Or.inl ⟨by kernel_rfl, ?_⟩) hH ?_
        rotate_left
        · intro W hS
          go_simp
          first | done | with_reducible rfl
        simp only [Act.put, List.getElem_toArray, List.getElem_cons_succ, List.getElem_cons_zero, List.setIfInBounds_toArray, List.set_cons_zero, List.set_cons_succ]
        refine wpAnyH_take (i := 17) (v := ?_) rfl (by kernel_rfl) (by kernel_rfl) (by kernel_rfl) (fun _ _ _ h => h) (Or.inl ⟨by kernel_rfl, ?_⟩) hH ?_
        rotate_left
        · intro W hS
          go_simp
          first | done | with_reducible rfl
        simp only [Act.put, List.getElem_toArray, List.getElem_cons_succ, List.getElem_cons_zero, List.setIfInBounds_toArray, List.set_cons_zero, List.set_cons_succ]
        refine wpAnyH_take (i := 18) (v := .agg #[.int .i64 (st2 : Int), strV m2, .int .i64 (z2 : Int), .slice ao3 L2.length cp3]) rfl (by kernel_rfl) (by kernel_rfl) (by kernel_rfl) (fun _ _ _ h => h) (Or.inl ⟨by kernel_rfl, ?_⟩) hH ?_
        · intro W hS
          exact load_gives (x := .tmp 9) (by kernel_rfl) G3 (by kernel_rfl) hS.2.2.1 Tryz.underlying41 rfl infoResS
        simp only [Act.put, List.getElem_toArray, List.getElem_cons_succ, List.getElem_cons_zero, List.setIfInBounds_toArray, List.set_cons_zero, List.set_cons_succ]
        refine wpAnyH_ready (rs := [19]) (by kernel_rfl) (by simp) ?_
        refine AllReadyH.cons rfl (fun K hK => ?_) AllReadyH.nil
        go_simp
        refine (CQ2.out _ (RD3.out.below hH.1)).mono ?_
        rintro e w9 ⟨rfl, hb20⟩
        have hS1 := BoxB.below hH hb20
        clear hH
        refine hK.out _ _ hS1 (fun hH => ?_)
        clear hK K
        try simp only [Act.put, List.getElem_toArray, List.getElem_cons_succ, List.getElem_cons_zero, List.setIfInBounds_toArray, List.set_cons_zero, List.set_cons_succ]
        refine wpAnyH_take (i := 20) (v := ?_) rfl (by kernel_rfl) (by kernel_rfl) (by kernel_rfl) (fun _ _ _ h => h) (Or.inl ⟨by kernel_rfl, ?_⟩) hH ?_
        rotate_left
        · intro W hS
          go_simp
          first | done | with_reducible rfl
        simp only [Act.put, List.getElem_toArray, List.getElem_cons_succ, List.getElem_cons_zero, List.setIfInBounds_toArray, List.set_cons_zero, List.set_cons_succ]
        refine wpAnyH_take (i := 21) (v := ?_) rfl (by kernel_rfl) (by kernel_rfl) (by kernel_rfl) (fun _ _ _ h => h) (Or.inl ⟨by kernel_rfl, ?_⟩) hH ?_
        rotate_left
        · intro W hS
          go_simp
          first | done | with_reducible rfl
        simp only [Act.put, List.getElem_toArray, List.getElem_cons_succ, List.getElem_cons_zero, List.setIfInBounds_toArray, List.set_cons_zero, List.set_cons_succ]
        refine wpAnyH_take (i := 22) (v := ?_) rfl (by kernel_rfl) (by kernel_rfl) (by kernel_rfl) (fun _ _ _ h => h) (Or.inl ⟨by kernel_rfl, ?_⟩) hH ?_
        rotate_left
        · intro W hS
          go_simp
          first | done | with_reducible rfl
        simp only [Act.put, List.getElem_toArray, List.getElem_cons_succ, List.getElem_cons_zero, List.setIfInBounds_toArray, List.set_cons_zero, List.set_cons_succ]
        refine wpAnyH_done (by kernel_rfl) ?_ _
        go_wp2_with fail
        go_ret
        exact ⟨rfl, chain2 hb12 hb12.size hH.1⟩
      · have e0 : (k2 == 0) = false := by simpa using hk02
        have e2 : (k2 != 0) = true := by simpa using hk02
        have e3 : (k2 == k2) = true := by simp
        have e4 : (k2 != k2) = false := by simp
        clear hk02 HOK2
        have e5 : (n2 == n2) = true := by simp
        have e6 : (n2 != n2) = false := by simp
        refine wp_region_held_drew (S := BoxB (w11.setRow G2 #[strV m2, strV [], .int .i64 (st2 : Int), .int .i64 (z2 : Int), .slice ao4 L2.length cp4]) G3 #[.int .i64 (st2 : Int), strV m2, .int .i64 (z2 : Int), .slice ao3 L2.length cp3] 41 G2 #[strV m2, strV [], .int .i64 (st2 : Int), .int .i64 (z2 : Int), .slice ao4 L2.length cp4] 35 []) (by kernel_rfl) ⟨(Below.refl _ _).drew, Nat.le_refl _, hg3c, hg2c⟩ (fun hH => ?_)
        refine wpAnyH_take (i := 0) (v := ?_) rfl (by kernel_rfl) (by kernel_rfl) (by kernel_rfl) (fun _ _ _ h => h) (Or.inl ⟨by kernel_rfl, ?_⟩) hH ?_
        rotate_left
        · intro W hS
          go_simp
          first | done | with_reducible rfl
        simp only [Act.put, List.getElem_toArray, List.getElem_cons_succ, List.getElem_cons_zero, List.setIfInBounds_toArray, List.set_cons_zero, List.set_cons_succ]
        refine wpAnyH_take (i := 1) (v := ?_) rfl (by kernel_rfl) (by kernel_rfl) (by kernel_rfl) (fun _ _ _ h => h) (Or.inl ⟨by kernel_rfl, ?_⟩) hH ?_
        rotate_left
        · intro W hS
          go_simp
          first | done | with_reducible rfl
        simp only [Act.put, List.getElem_toArray, List.getElem_cons_succ, List.getElem_cons_zero, List.setIfInBounds_toArray, List.set_cons_zero, List.set_cons_succ]
        refine wpAnyH_take (i := 2) (v := ?_) rfl (by kernel_rfl) (by kernel_rfl) (by kernel_rfl) (fun _ _ _ h => h) (Or.inl ⟨by kernel_rfl, ?_⟩) hH ?_
        rotate_left
        · intro W hS
          go_simp
          first | done | with_reducible rfl
        simp only [Act.put, List.getElem_toArray, List.getElem_cons_succ, List.getElem_cons_zero, List.setIfInBounds_toArray, List.set_cons_zero, List.set_cons_succ]
        refine wpAnyH_take (i := 3) (v := ?_) rfl (by kernel_rfl) (by kernel_rfl) (by kernel_rfl) (fun _ _ _ h => h) (Or.inl ⟨by kernel_rfl, ?_⟩) hH ?_
        rotate_left
        · intro W hS
          go_simp
          first | done | with_reducible rfl
        simp only [Act.put, List.getElem_toArray, List.getElem_cons_succ, List.getElem_cons_zero, List.setIfInBounds_toArray, List.set_cons_zero, List.set_cons_succ]
        refine wpAnyH_take (i := 4) (v := ?_) rfl (by kernel_rfl) (by kernel_rfl) (by kernel_rfl) (fun _ _ _ h => h) (Or.inl ⟨by kernel_rfl, ?_⟩) hH ?_
        rotate_left
        · intro W hS
          go_simp
          first | done | with_reducible rfl
        simp only [Act.put, List.getElem_toArray, List.getElem_cons_succ, List.getElem_cons_zero, List.setIfInBounds_toArray, List.set_cons_zero, List.set_cons_succ]
        refine wpAnyH_take (i := 5) (v := ?_) rfl (by kernel_rfl) (by kernel_rfl) (by kernel_rfl) (fun _ _ _ h => h) (Or.inl ⟨by kernel_rfl, ?_⟩) hH ?_
        rotate_left
        · intro W hS
          go_simp
          first | done | with_reducible rfl
        simp only [Act.put, List.getElem_toArray, List.getElem_cons_succ, List.getElem_cons_zero, List.setIfInBounds_toArray, List.set_cons_zero, List.set_cons_succ]
        refine wpAnyH_take (i := 6) (v := ?_) rfl (by kernel_rfl) (by kernel_rfl) (by kernel_rfl) (fun _ _ _ h => h) (Or.inl ⟨by kernel_rfl, ?_⟩) hH ?_
        rotate_left
        · intro W hS
          go_simp
          first | done | with_reducible rfl
        simp only [Act.put, List.getElem_toArray, List.getElem_cons_succ, List.getElem_cons_zero, List.setIfInBounds_toArray, List.set_cons_zero, List.set_cons_succ]
        refine wpAnyH_take (i := 7) (v := ?_) rfl (by kernel_rfl) (by kernel_rfl) (by kernel_rfl) (fun _ _ _ h => h) (Or.inl ⟨by kernel_rfl, ?_⟩) hH ?_
        rotate_left
        · intro W hS
          go_simp
          first | done | with_reducible rfl
        simp only [Act.put, List.getElem_toArray, List.getElem_cons_succ, List.getElem_cons_zero, List.setIfInBounds_toArray, List.set_cons_zero, List.set_cons_succ]
        refine wpAnyH_take (i := 8) (v := ?_) rfl (by kernel_rfl) (by kernel_rfl) (by kernel_rfl) (fun _ _ _ h => h) (Or.inl ⟨by kernel_rfl, ?_⟩) hH ?_
        rotate_left
        · intro W hS
          go_simp
          first | done | with_reducible rfl
        simp only [Act.put, List.getElem_toArray, List.getElem_cons_succ, List.getElem_cons_zero, List.setIfInBounds_toArray, List.set_cons_zero, List.set_cons_succ]
        refine wpAnyH_take (i := 9) (v := .agg #[.int .i64 (st2 : Int), strV m2, .int .i64 (z2 : Int), .slice ao3 L2.length cp3]) rfl (by kernel_rfl) (by kernel_rfl) (by kernel_rfl) (fun _ _ _ h => h) (Or.inl ⟨by kernel_rfl, ?_⟩) hH ?_
        · intro W hS
          exact load_gives (x := .tmp 9) (by kernel_rfl) G3 (by kernel_rfl) hS.2.2.1 Tryz.underlying41 rfl infoResS
        simp only [Act.put, List.getElem_toArray, List.getElem_cons_succ, List.getElem_cons_zero, List.setIfInBounds_toArray, List.set_cons_zero, List.set_cons_succ]
        refine wpAnyH_take (i := 11) (v := .agg #[strV m2, strV [], .int .i64 (st2 : Int), .int .i64 (z2 : Int), .slice ao4 L2.length cp4]) rfl (by kernel_rfl) (by kernel_rfl) (by kernel_rfl) (fun _ _ _ h => h) (Or.inl ⟨by kernel_rfl, ?_⟩) hH ?_
        · intro W hS
          exact load_gives (x := .tmp 6) (by kernel_rfl) G2 (by kernel_rfl) hS.2.2.2 Tryz.underlying35 rfl infoHdS
        simp only [Act.put, List.getElem_toArray, List.getElem_cons_succ, List.getElem_cons_zero, List.setIfInBounds_toArray, List.set_cons_zero, List.set_cons_succ]
        refine wpAnyH_ready (rs := [10]) (by kernel_rfl) (by simp) ?_
        refine AllReadyH.cons rfl (fun K hK => ?_) AllReadyH.nil
        go_simp
        refine (CM2.out (.slice ao3 L2.length cp3) _ (RD3.out.below hH.1)).mono ?_
        rintro e w9 ⟨⟨aom1, cm1, rfl, rd17⟩, hb17⟩
        have hS1 := BoxB.below hH hb17
        clear hH
        refine hK.out _ _ hS1 (fun hH => ?_)
        clear hK K
        try simp only [Act.put, List.getElem_toArray, List.getElem_cons_succ, List.getElem_cons_zero, List.setIfInBounds_toArray, List.set_cons_zero, List.set_cons_succ]
        refine wpAnyH_ready (rs := [12]) (by kernel_rfl) (by simp) ?_
        refine AllReadyH.cons rfl (fun K hK => ?_) AllReadyH.nil
        go_simp
        refine (CE2.out _ _ _ _ _ rd17 (RD4.out.below hH.1)).mono ?_
        rintro e w9 ⟨rfl, hb20⟩
        have hS1 := BoxB.below hH hb20
        clear hH
        refine hK.out _ _ hS1 (fun hH => ?_)
        clear hK K
        try simp only [Act.put, List.getElem_toArray, List.getElem_cons_succ, List.getElem_cons_zero, List.setIfInBounds_toArray, List.set_cons_zero, List.set_cons_succ]
        refine wpAnyH_take (i := 13) (v := ?_) rfl (by kernel_rfl) (by kernel_rfl) (by kernel_rfl) (fun _ _ _ h => h) (Or.inl ⟨by kernel_rfl, ?_⟩) hH ?_
        rotate_left
        · intro W hS
          go_simp
          first | done | with_reducible rfl
        simp only [Act.put, List.getElem_toArray, List.getElem_cons_succ, List.getElem_cons_zero, List.setIfInBounds_toArray, List.set_cons_zero, List.set_cons_succ]
        refine wpAnyH_take (i := 14) (v := ?_) rfl (by kernel_rfl) (by kernel_rfl) (by kernel_rfl) (fun _ _ _ h => h) (Or.inl ⟨by kernel_rfl, ?_⟩) hH ?_
        rotate_left
        · intro W hS
          go_simp
          first | done | with_reducible rfl
        simp only [Act.put, List.getElem_toArray, List.getElem_cons_succ, List.getElem_cons_zero, List.setIfInBounds_toArray, List.set_cons_zero, List.set_cons_succ]
        refine wpAnyH_take (i := 15) (v := ?_) rfl (by kernel_rfl) (by kernel_rfl) (by kernel_rfl) (fun _ _ _ h => h) (Or.inl ⟨by kernel_rfl, ?_⟩) hH ?_
        rotate_left
        · intro W hS
          go_simp
          first | done | with_reducible rfl
        simp only [Act.put, List.getElem_toArray, List.getElem_cons_succ, List.getElem_cons_zero, List.setIfInBounds_toArray, List.set_cons_zero, List.set_cons_succ]
        refine wpAnyH_take (i := 16) (v := ?_) rfl (by kernel_rfl) (by kernel_rfl) (by kernel_rfl) (fun _ _ _ h => h) (Or.inl ⟨by kernel_rfl, ?_⟩) hH ?_
        rotate_left
        · intro W hS
          go_simp
          first | done | with_reducible rfl
        simp only [Act.put, List.getElem_toArray, List.getElem_cons_succ, List.getElem_cons_zero, List.setIfInBounds_toArray, List.set_cons_zero, List.set_cons_succ]
        refine wpAnyH_take (i := 17) (v := ?_) rfl (by kernel_rfl) (by kernel_rfl) (by kernel_rfl) (fun _ _ _ h => h) (Or.inl ⟨by kernel_rfl, ?_⟩) hH ?_
        rotate_left
        · intro W hS
          go_simp
          first | done | with_reducible rfl
        simp only [Act.put, List.getElem_toArray, List.getElem_cons_succ, List.getElem_cons_zero, List.setIfInBounds_toArray, List.set_cons_zero, List.set_cons_succ]
        refine wpAnyH_take (i := 18) rfl (by kernel_rfl) (by kernel_rfl) (by kernel_rfl) (fun _ _ _ h => h) (Or.inr ⟨by kernel_rfl, rfl⟩) hH ?_
        simp only [Act.put, List.getElem_toArray, List.getElem_cons_succ, List.getElem_cons_zero, List.setIfInBounds_toArray, List.set_cons_zero, List.set_cons_succ]
        refine wpAnyH_take (i := 19) rfl (by kernel_rfl) (by kernel_rfl) (by kernel_rfl) (fun _ _ _ h => h) (Or.inr ⟨by kernel_rfl, rfl⟩) hH ?_
        simp only [Act.put, List.getElem_toArray, List.getElem_cons_succ, List.getElem_cons_zero, List.setIfInBounds_toArray, List.set_cons_zero, List.set_cons_succ]
        refine wpAnyH_take (i := 20) (v := ?_) rfl (by kernel_rfl) (by kernel_rfl) (by kernel_rfl) (fun _ _ _ h => h) (Or.inl ⟨by kernel_rfl, ?_⟩) hH ?_
        rotate_left
        · intro W hS
          go_simp
          first | done | with_reducible rfl
        simp only [Act.put, List.getElem_toArray, List.getElem_cons_succ, List.getElem_cons_zero, List.setIfInBounds_toArray, List.set_cons_zero, List.set_cons_succ]
        refine wpAnyH_take (i := 21) (v := ?_) rfl (by kernel_rfl) (by kernel_rfl) (by kernel_rfl) (fun _ _ _ h => h) (Or.inl ⟨by kernel_rfl, ?_⟩) hH ?_
        rotate_left
        · intro W hS
          go_simp
          first | done | with_reducible rfl
        simp only [Act.put, List.getElem_toArray, List.getElem_cons_succ, List.getElem_cons_zero, List.setIfInBounds_toArray, List.set_cons_zero, List.set_cons_succ]
        refine wpAnyH_take (i := 22) (v := ?_) rfl (by kernel_rfl) (by kernel_rfl) (by kernel_rfl) (fun _ _ _ h => h) (Or.inl ⟨by kernel_rfl, ?_⟩) hH ?_
        rotate_left
        · intro W hS
          go_simp
          first | done | with_reducible rfl
        simp only [Act.put, List.getElem_toArray, List.getElem_cons_succ, List.getElem_cons_zero, List.setIfInBounds_toArray, List.set_cons_zero, List.set_cons_succ]
        refine wpAnyH_done (by kernel_rfl) ?_ _
        go_wp2_with fail
        go_ret
        exact ⟨rfl, chain2 hb12 hb12.size hH.1⟩
end Go.Proofs.YtfoghjhdjmapnaaGreatDoor

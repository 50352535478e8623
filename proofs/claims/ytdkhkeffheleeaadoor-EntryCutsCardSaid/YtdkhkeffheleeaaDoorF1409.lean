/-
  Several texts in one: Ref14G, EntE.
-/
import Derived.Test.YtdkhkeffheleeaaDoorF1403
import Derived.Test.YtdkhkeffheleeaaDoorF14RefFieldB
import Derived.Deep.QuietTactic
import Derived.BigQuiet
import Derived.Laws.StructEq
/-
  The document's answers of layer 14: Same.
-/
set_option linter.unusedVariables false
set_option linter.unusedSimpArgs false
namespace Go.Pantry
open Go.RowKit
theorem bool3 {α : Type} [BEq α] {x y : α} {b : Bool} (h : (x == y) = b) : (!(x == y)) = !b ∧ (x != y) = !b := ⟨by rw [h], by rw [bne, h]⟩
theorem ent_eq {a b : EntP} (h1 : a.key = b.key) (h2 : a.second = b.second) (h3 : a.names = b.names) (h4 : a.asked = b.asked) (h5 : a.came = b.came) (h6 : a.status = b.status) (h7 : a.body = b.body) (h8 : a.gen = b.gen) : decide (a = b) = decide (a.fields = b.fields) := by
  obtain ⟨k, s, n, x, y, z, f, bd, g⟩ := a
  obtain ⟨k', s', n', x', y', z', f', bd', g'⟩ := b
  simp only at h1 h2 h3 h4 h5 h6 h7 h8 ⊢
  subst h1 h2 h3 h4 h5 h6 h7 h8
  simp
end Go.Pantry
namespace Go.Proofs.YtdkhkeffheleeaaDoor
open Go.RowKit Go.Pantry

set_option maxRecDepth 8000 in
set_option maxHeartbeats 8000000 in
theorem r14Same_any (a b : EntP) (pnv pfv pbv qnv qfv qbv : Value) (w : World) (ha : EntAt w pnv pfv pbv a) (hb : EntAt w qnv qfv qbv b) (hl1 : a.names.length ≤ 1000000) (hl2 : a.fields.length < 1000000) :
    Calls Tryd.prog 20 #[.agg (rowE pnv pfv pbv a), .agg (rowE qnv qfv qbv b)] w fun x w' => x = .returned (.bool (decide (a = b))) ∧ Below w.heap.size w w' := by
  obtain ⟨pno, pnc, rfl⟩ := ha.names.strs
  obtain ⟨pfo, pfc, rfl⟩ := ha.flds.form
  obtain ⟨pbo, pbc, phbv⟩ : ∃ ao cap, pbv = .slice ao a.body.length cap := by
    obtain ⟨ao, cap, h, -⟩ := ha.body
    exact ⟨ao, cap, by rw [h, List.length_map]⟩
  subst phbv
  obtain ⟨qno, qnc, rfl⟩ := hb.names.strs
  obtain ⟨qfo, qfc, rfl⟩ := hb.flds.form
  obtain ⟨qbo, qbc, qhbv⟩ : ∃ ao cap, qbv = .slice ao b.body.length cap := by
    obtain ⟨ao, cap, h, -⟩ := hb.body
    exact ⟨ao, cap, by rw [h, List.length_map]⟩
  subst qhbv
  obtain ⟨W, hW⟩ : ∃ W, (w.alloc (.cells (rowE (.slice pno a.names.length pnc) (.slice pfo a.fields.length pfc) (.slice pbo a.body.length pbc) a) 32)).alloc (.cells (rowE (.slice qno b.names.length qnc) (.slice qfo b.fields.length qfc) (.slice qbo b.body.length qbc) b) 32) = W := ⟨_, rfl⟩
  have hbW : Below w.heap.size w W := by rw [← hW]; exact chain2 (below_alloc _ _) (below_alloc _ _).size (below_alloc _ _)
  have q1 : rowIs W w.heap.size (rowE (.slice pno a.names.length pnc) (.slice pfo a.fields.length pfc) (.slice pbo a.body.length pbc) a) 32 := by rw [← hW]; exact (rowIs_new _ _ _).below (below_alloc _ _)
  have q2 : rowIs W (w.heap.size + 1) (rowE (.slice qno b.names.length qnc) (.slice qfo b.fields.length qfc) (.slice qbo b.body.length qbc) b) 32 := by rw [← hW]; exact rowIs_new_at _ _ _ _ (by simp)
  have HA := hid (ha.below hbW)
  have HBb := hid (hb.below hbW)
  have HQ1 := hid q1
  have HQ2 := hid q2
  have HW := hid hbW
  have hc1 := reads_string (P := Tryd.prog) HA.out.body 25 9 5 Tryd.underlying25 Tryd.underlying5 Tryd.underlying9
  have hc2 := reads_string (P := Tryd.prog) HBb.out.body 25 9 5 Tryd.underlying25 Tryd.underlying5 Tryd.underlying9
  have CF := hid (fun (W' : World) (h : Below w.heap.size w W') => refSame_any (.slice pfo a.fields.length pfc) (.slice qfo b.fields.length qfc) a.fields b.fields W' (ha.flds.below h) (hb.flds.below h) hl2)
  clear q1 q2 hbW ha hb
  have x0 : W.cell? ⟨w.heap.size, 0, none⟩ = some (strV a.key) := HQ1.out.cell 0
  have y0 : W.cell? ⟨w.heap.size + 1, 0, none⟩ = some (strV b.key) := HQ2.out.cell 0
  have x1 : W.cell? ⟨w.heap.size, 1, none⟩ = some (strV a.second) := HQ1.out.cell 1
  have y1 : W.cell? ⟨w.heap.size + 1, 1, none⟩ = some (strV b.second) := HQ2.out.cell 1
  have x2 : W.cell? ⟨w.heap.size, 2, none⟩ = some (.slice pno a.names.length pnc) := HQ1.out.cell 2
  have y2 : W.cell? ⟨w.heap.size + 1, 2, none⟩ = some (.slice qno b.names.length qnc) := HQ2.out.cell 2
  have x3 : W.cell? ⟨w.heap.size, 3, none⟩ = some (.int .i64 a.asked) := HQ1.out.cell 3
  have y3 : W.cell? ⟨w.heap.size + 1, 3, none⟩ = some (.int .i64 b.asked) := HQ2.out.cell 3
  have x4 : W.cell? ⟨w.heap.size, 4, none⟩ = some (.int .i64 a.came) := HQ1.out.cell 4
  have y4 : W.cell? ⟨w.heap.size + 1, 4, none⟩ = some (.int .i64 b.came) := HQ2.out.cell 4
  have x5 : W.cell? ⟨w.heap.size, 5, none⟩ = some (.int .i64 a.status) := HQ1.out.cell 5
  have y5 : W.cell? ⟨w.heap.size + 1, 5, none⟩ = some (.int .i64 b.status) := HQ2.out.cell 5
  have x7 : W.cell? ⟨w.heap.size, 7, none⟩ = some (.slice pbo a.body.length pbc) := HQ1.out.cell 7
  have y7 : W.cell? ⟨w.heap.size + 1, 7, none⟩ = some (.slice qbo b.body.length qbc) := HQ2.out.cell 7
  have x8 : W.cell? ⟨w.heap.size, 8, none⟩ = some (.int .i64 a.gen) := HQ1.out.cell 8
  have y8 : W.cell? ⟨w.heap.size + 1, 8, none⟩ = some (.int .i64 b.gen) := HQ2.out.cell 8
  obtain ⟨R, hR⟩ : ∃ R, decide (a = b) = R := ⟨_, rfl⟩
  have HEQ := hid (fun h1 h2 h3 h4 h5 h6 h7 h8 => ent_eq (a := a) (b := b) h1 h2 h3 h4 h5 h6 h7 h8)
  have HNE := hid (fun (h : ¬ a = b) => (hR.symm.trans (decide_eq_false h) : R = false))
  rw [hR] at HEQ ⊢
  clear hR
  go_enter Tryd.func20, Tryd.ntmps20
  by_cases ek : a.key = b.key
  rotate_left
  · have fk : (a.key == b.key) = false := by simpa using ek
    obtain ⟨gk, ik⟩ := bool3 fk
    have hr := HNE.out (fun h => ek (by rw [h]))
    subst hr
    clear HNE HEQ ek
    go_wp2_with fail
    go_ret
    exact ⟨rfl, HW.out⟩
  have fk : (a.key == b.key) = true := by rw [ek]; exact beq_self_eq_true _
  obtain ⟨gk, ik⟩ := bool3 fk
  simp only [Bool.not_true] at gk ik
  have Ek := hid ek
  clear ek
  by_cases es : a.second = b.second
  rotate_left
  · have fs : (a.second == b.second) = false := by simpa using es
    obtain ⟨gs, is⟩ := bool3 fs
    have hr := HNE.out (fun h => es (by rw [h]))
    subst hr
    clear HNE HEQ es
    go_wp2_with fail
    go_ret
    exact ⟨rfl, HW.out⟩
  have fs : (a.second == b.second) = true := by rw [es]; exact beq_self_eq_true _
  obtain ⟨gs, is⟩ := bool3 fs
  simp only [Bool.not_true] at gs is
  have Es := hid es
  clear es
  by_cases em : (a.names.length : Int) = (b.names.length : Int)
  rotate_left
  · have fm : ((a.names.length : Int) == (b.names.length : Int)) = false := by simpa using em
    obtain ⟨gm, im⟩ := bool3 fm
    have hr := HNE.out (fun h => em (by rw [h]))
    subst hr
    clear HNE HEQ em
    go_wp2_with fail
    go_ret
    exact ⟨rfl, HW.out⟩
  have fm : ((a.names.length : Int) == (b.names.length : Int)) = true := by rw [em]; exact beq_self_eq_true _
  obtain ⟨gm, im⟩ := bool3 fm
  simp only [Bool.not_true] at gm im
  have Em := hid em
  clear em
  by_cases ex : a.asked = b.asked
  rotate_left
  · have fx : (a.asked == b.asked) = false := by simpa using ex
    obtain ⟨gx, ix⟩ := bool3 fx
    have hr := HNE.out (fun h => ex (by rw [h]))
    subst hr
    clear HNE HEQ ex
    go_wp2_with fail
    go_ret
    exact ⟨rfl, HW.out⟩
  have fx : (a.asked == b.asked) = true := by rw [ex]; exact beq_self_eq_true _
  obtain ⟨gx, ix⟩ := bool3 fx
  simp only [Bool.not_true] at gx ix
  have Ex := hid ex
  clear ex
  by_cases ec : a.came = b.came
  rotate_left
  · have fc : (a.came == b.came) = false := by simpa using ec
    obtain ⟨gc, ic⟩ := bool3 fc
    have hr := HNE.out (fun h => ec (by rw [h]))
    subst hr
    clear HNE HEQ ec
    go_wp2_with fail
    go_ret
    exact ⟨rfl, HW.out⟩
  have fc : (a.came == b.came) = true := by rw [ec]; exact beq_self_eq_true _
  obtain ⟨gc, ic⟩ := bool3 fc
  simp only [Bool.not_true] at gc ic
  have Ec := hid ec
  clear ec
  by_cases et : a.status = b.status
  rotate_left
  · have ft : (a.status == b.status) = false := by simpa using et
    obtain ⟨gt, it⟩ := bool3 ft
    have hr := HNE.out (fun h => et (by rw [h]))
    subst hr
    clear HNE HEQ et
    go_wp2_with fail
    go_ret
    exact ⟨rfl, HW.out⟩
  have ft : (a.status == b.status) = true := by rw [et]; exact beq_self_eq_true _
  obtain ⟨gt, it⟩ := bool3 ft
  simp only [Bool.not_true] at gt it
  have Et := hid et
  clear et
  by_cases eb : a.body = b.body
  rotate_left
  · have fb : (a.body == b.body) = false := by simpa using eb
    obtain ⟨gb, ib⟩ := bool3 fb
    have hr := HNE.out (fun h => eb (by rw [h]))
    subst hr
    clear HNE HEQ eb
    go_wp2_with fail
    go_ret
    exact ⟨rfl, HW.out⟩
  have fb : (a.body == b.body) = true := by rw [eb]; exact beq_self_eq_true _
  obtain ⟨gb, ib⟩ := bool3 fb
  simp only [Bool.not_true] at gb ib
  have Eb := hid eb
  clear eb
  by_cases eg : a.gen = b.gen
  rotate_left
  · have fg : (a.gen == b.gen) = false := by simpa using eg
    obtain ⟨gg, ig⟩ := bool3 fg
    have hr := HNE.out (fun h => eg (by rw [h]))
    subst hr
    clear HNE HEQ eg
    go_wp2_with fail
    go_ret
    exact ⟨rfl, HW.out⟩
  have fg : (a.gen == b.gen) = true := by rw [eg]; exact beq_self_eq_true _
  obtain ⟨gg, ig⟩ := bool3 fg
  simp only [Bool.not_true] at gg ig
  have Eg := hid eg
  clear eg
  go_wp2_with fail
  clear hW
  go_loopw [5] (fun i wr => ∃ k : Nat, k ≤ a.names.length ∧ i = .int .i64 (k : Int) ∧ a.names.take k = b.names.take k ∧ Below W.heap.size W wr) (fun i _ => a.names.length - (intOf i).toNat)
  case atStart => exact ⟨0, Nat.zero_le _, rfl, rfl, Below.refl _ _⟩
  case round =>
    obtain ⟨k, hk, rfl, hkt, hbr⟩ := hrel
    have HT := hid hkt
    have z2 : wr.cell? ⟨w.heap.size, 2, none⟩ = some (.slice pno a.names.length pnc) := kept x2 hbr
    have u2 : wr.cell? ⟨w.heap.size + 1, 2, none⟩ = some (.slice qno b.names.length qnc) := kept y2 hbr
    have hnn : b.names.length = a.names.length := by have := Em.out; omega
    have HBW := hid (chain2 HW.out HW.out.size hbr)
    clear hkt
    by_cases hlt : k < a.names.length
    · obtain ⟨s, hs⟩ : ∃ s, a.names[k]? = some s := ⟨_, List.getElem?_eq_getElem hlt⟩
      obtain ⟨t, ht⟩ : ∃ t, b.names[k]? = some t := ⟨_, List.getElem?_eq_getElem (by omega)⟩
      obtain ⟨b1, o1, ha1, d1⟩ := (HA.out.names.below hbr).str hs
      obtain ⟨b2, o2, ha2, d2⟩ := (HBb.out.names.below hbr).str ht
      subst ha1 ha2
      have hkI : (k : Int) < (a.names.length : Int) := by omega
      have hkJ : (k : Int) < (b.names.length : Int) := by omega
      have hlt2 : k < b.names.length := by omega
      have hk0 : (0 : Int) ≤ (k : Int) := by omega
      have hkw : IntKind.i64.wrap ((k : Int) + 1) = (k : Int) + 1 := IntWalk.i64_in _ (by omega)
      have HS := hid (And.intro hs ht)
      have HTS := hid (And.intro (take_str hs) (take_str ht))
      have HNN := hid hnn
      clear hs ht hnn
      by_cases est : s = t
      · have fst' : (s == t) = true := by rw [est]; exact beq_self_eq_true _
        obtain ⟨gst, ist⟩ := bool3 fst'
        simp only [Bool.not_true] at gst ist
        have HE := hid est
        have HBR := hid hbr
        clear est hbr
        go_wp2_with fail
        go_quiet (fail)
        go_wp2_with fail
        go_roundw
        case rel => exact ⟨k + 1, hlt, by go_num, by rw [HTS.out.1, HTS.out.2, HT.out, HE.out], chain2 HBR.out HBR.out.size (drewN_below2 _ _)⟩
        case measure => simp [intOf]; omega
      · have fst' : (s == t) = false := by simpa using est
        obtain ⟨gst, ist⟩ := bool3 fst'
        have hr := HNE.out (fun h => est (by
          have h1 := HS.out.1
          rw [h, HS.out.2] at h1
          exact (Option.some.inj h1).symm))
        subst hr
        clear HNE HEQ est hbr
        go_wp2_with fail
        go_quiet (fail)
        go_wp2_with fail
        go_ret
        exact ⟨rfl, chain2 HBW.out HBW.out.size (drewN_below2 _ _)⟩
    · have hka : k = a.names.length := by omega
      have hnm : a.names = b.names := by
        have h := HT.out
        rw [List.take_of_length_le (by omega), List.take_of_length_le (by omega)] at h
        exact h
      have hR := HEQ.out Ek.out Es.out hnm Ex.out Ec.out Et.out Eb.out Eg.out
      have HR := hid hR
      have z6 : wr.cell? ⟨w.heap.size, 6, none⟩ = some (.slice pfo a.fields.length pfc) := (HQ1.out.below hbr).cell 6
      have u6 : wr.cell? ⟨w.heap.size + 1, 6, none⟩ = some (.slice qfo b.fields.length qfc) := (HQ2.out.below hbr).cell 6
      have hkd : decide ((k : Int) < (a.names.length : Int)) = false := decide_eq_false (by omega)
      clear hR hnm HEQ HNE hnn hbr
      go_wp2_with fail
      refine (CF.out _ HBW.out).mono ?_
      rintro y1 w1 ⟨rfl, hb1⟩
      have HB1 := hid (chain2 HBW.out HBW.out.size hb1)
      clear hb1
      go_wp2_with fail
      go_ret
      exact ⟨ret_bool HR.out.symm, HB1.out⟩
end Go.Proofs.YtdkhkeffheleeaaDoor
/-
  Contracts of package entry: slices.Equal of texts and of fields, bytes.Equal, Same.
-/
set_option linter.unusedVariables false
set_option linter.unusedSimpArgs false
namespace Go.Proofs.YtdkhkeffheleeaaDoor
open Go.RowKit Go.Pantry

theorem strEq (x y : List UInt8) : ((⟨x.toArray⟩ : ByteArray).toList == (⟨y.toArray⟩ : ByteArray).toList) = (x == y) := by
  rw [ByteArray.toList_eq, ByteArray.toList_eq]
theorem equalFld (f g : Fld) (w : World) : (Op.equalIn 10000 53 (.agg #[strV f.1, strV f.2]) (.agg #[strV g.1, strV g.2])).run Tryd.prog w = .ok (decide (f = g)) w := by
  have hu : Tryd.prog.underlying 53 = some (.struct (Tryd.prog.fieldsOf 53)) := by kernel_rfl
  have hp : Tryd.prog.stoodInHeld 53 = false := by kernel_rfl
  rw [run_equalIn_agg w 9999 _ _ _ hu hp]
  have hf : (Tryd.prog.fieldsOf 53).toList.map (fun x => (x.name == "_", x.type, x.offset)) = [(false, 9, 0), (false, 9, 1)] := by kernel_rfl
  generalize (Tryd.prog.fieldsOf 53).toList = fs at hf
  have hl : fs.length = 2 := by simpa using congrArg List.length hf
  obtain ⟨f0, f1, rfl⟩ : ∃ f0 f1, fs = [f0, f1] := by
    cases fs with
    | nil => simp at hl
    | cons f0 fs =>
      cases fs with
      | nil => simp at hl
      | cons f1 fs =>
        cases fs with
        | nil => exact ⟨f0, f1, rfl⟩
        | cons f2 fs => simp at hl
  simp only [List.map_cons, List.map_nil, List.cons.injEq, Prod.mk.injEq, and_true] at hf
  obtain ⟨⟨n0, t0, o0⟩, n1, t1, o1⟩ := hf
  have n0' : f0.name ≠ "_" := by simpa using n0
  have n1' : f1.name ≠ "_" := by simpa using n1
  have p0 : ∀ (u v : Value) (W : World), (part 9 #[u, v] 0).run Tryd.prog W = .ok u W := by intro u v W; kernel_rfl
  have p1 : ∀ (u v : Value) (W : World), (part 9 #[u, v] 1).run Tryd.prog W = .ok v W := by intro u v W; kernel_rfl
  have q : ∀ (x y : List UInt8) (W : World), (Op.equalIn 9999 9 (strV x) (strV y)).run Tryd.prog W = .ok (x == y) W := by
    intro x y W
    rw [← strEq]
    exact run_equalIn_string (P := Tryd.prog) W 9998 9 _ _ Tryd.underlying9
  obtain ⟨a, b⟩ := f
  obtain ⟨c, d⟩ := g
  have hd : decide ((a, b) = (c, d)) = ((a == c) && (b == d)) := by
    rw [Bool.eq_iff_iff]
    simp [Prod.mk.injEq]
  rw [hd]
  obtain ⟨qa, hqa⟩ : ∃ b, (a == c) = b := ⟨_, rfl⟩
  obtain ⟨qb, hqb⟩ : ∃ r, (b == d) = r := ⟨_, rfl⟩
  have q1 := q a c
  have q2 := q b d
  rw [hqa] at q1 ⊢
  rw [hqb] at q2 ⊢
  cases qa <;> cases qb <;> simp [Op.eqFields, n0', n1', t0, t1, o0, o1, p0, p1, q1, q2]
theorem neqFld (f g : Fld) (w : World) : (binOp .neq 53 (.agg #[strV f.1, strV f.2]) (.agg #[strV g.1, strV g.2])).run Tryd.prog w = .ok (.bool (!decide (f = g))) w := by
  rw [run_neq_struct, equalFld]
  rfl

set_option maxRecDepth 8000 in
set_option maxHeartbeats 4000000 in
theorem eqNames_any (p q : Value) (A B : List (List UInt8)) (w : World) (hA : Reads w p (A.map strV)) (hB : Reads w q (B.map strV)) (hl : A.length ≤ 1000000) :
    Calls Tryd.prog 43 #[p, q] w fun e w' => e = .returned (.bool (decide (A = B))) ∧ Below w.heap.size w w' := by
  obtain ⟨ao, ac, rfl⟩ := hA.strs
  obtain ⟨bo, bc, rfl⟩ := hB.strs
  obtain ⟨R, hR⟩ : ∃ R, decide (A = B) = R := ⟨_, rfl⟩
  rw [hR]
  have HRR := hid hR
  have HA := hid hA
  have HB := hid hB
  obtain ⟨n, hn⟩ : ∃ n, A.length = n := ⟨_, rfl⟩
  obtain ⟨m, hm⟩ : ∃ m, B.length = m := ⟨_, rfl⟩
  have HN := hid hn
  have HM := hid hm
  rw [hn] at hl ⊢
  rw [hm]
  clear hA hB hR hn hm
  go_enter Tryd.func43, Tryd.ntmps43
  by_cases hnm : n = m
  rotate_left
  · have hr0 : R = false := by
      rw [← HRR.out]
      exact decide_eq_false (fun h => hnm (by rw [← HN.out, ← HM.out, h]))
    subst hr0
    have d1 : ((n : Int) == (m : Int)) = false := by rw [beq_eq_false_iff_ne]; omega
    have d2 : ((n : Int) != (m : Int)) = true := by simp [bne, d1]
    go_wp2_with fail
    go_ret
    exact ⟨rfl, Below.refl _ _⟩
  subst hnm
  have d1 : ((n : Int) == (n : Int)) = true := by simp
  have d2 : ((n : Int) != (n : Int)) = false := by simp
  go_wp2_with fail
  go_loopw [13] (fun i wr => ∃ k : Nat, k ≤ n ∧ i = .int .i64 (k : Int) ∧ A.take k = B.take k ∧ Below w.heap.size w wr) (fun i _ => n - (intOf i).toNat)
  case atStart => exact ⟨0, Nat.zero_le _, rfl, rfl, Below.refl _ _⟩
  case round =>
    obtain ⟨k, hk, rfl, htk, hbr⟩ := hrel
    have HT := hid htk
    have HBR := hid hbr
    clear htk
    by_cases hlt : k < n
    · obtain ⟨x, hx⟩ : ∃ x, A[k]? = some x := ⟨_, List.getElem?_eq_getElem (by rw [HN.out]; exact hlt)⟩
      obtain ⟨y, hy⟩ : ∃ y, B[k]? = some y := ⟨_, List.getElem?_eq_getElem (by rw [HM.out]; exact hlt)⟩
      have hsame : x = y → A.take (k + 1) = B.take (k + 1) := fun e => by
        rw [List.take_add_one, List.take_add_one, hx, hy, HT.out, e]
      have hno : x ≠ y → R = false := fun hne => by
        rw [← HRR.out]
        refine decide_eq_false (fun h => hne ?_)
        rw [h, hy] at hx
        exact (Option.some.inj hx).symm
      have HS := hid hsame
      have HNO := hid hno
      obtain ⟨b1, o1, hao1, c1⟩ := (HA.out.below hbr).str hx
      obtain ⟨b2, o2, hao2, c2⟩ := (HB.out.below hbr).str hy
      subst hao1 hao2
      have hkI : (k : Int) < (n : Int) := by omega
      have hk0 : (0 : Int) ≤ (k : Int) := by omega
      have hkw : IntKind.i64.wrap ((k : Int) + 1) = (k : Int) + 1 := IntWalk.i64_in _ (by omega)
      clear hsame hno hx hy hbr
      by_cases hxy : x = y
      · subst hxy
        have HS1 := hid (HS.out rfl)
        have e1 : (x == x) = true := by simp
        have e2 : (x != x) = false := by simp
        go_wp2_with fail
        go_quiet (fail)
        have hb := below_drewN (Below.refl wr.heap.size wr) nq
        generalize wr.drewN nq = V at hb ⊢
        have HBV := hid (chain2 HBR.out HBR.out.size hb)
        clear hb c1 c2
        go_wp2_with fail
        go_roundw
        case rel => exact ⟨k + 1, hlt, by go_num, HS1.out, HBV.out⟩
        case measure => simp [intOf]; omega
      · have hr0 : R = false := HNO.out hxy
        subst hr0
        have e1 : (x == y) = false := by simpa using hxy
        have e2 : (x != y) = true := by simp [bne, e1]
        clear hxy
        go_wp2_with fail
        go_quiet (fail)
        have hb := below_drewN (Below.refl wr.heap.size wr) nq
        generalize wr.drewN nq = V at hb ⊢
        have HBV := hid (chain2 HBR.out HBR.out.size hb)
        clear hb c1 c2
        go_wp2_with fail
        go_ret
        exact ⟨rfl, HBV.out⟩
    · have hkn : k = n := by omega
      subst hkn
      have hkx : ¬ ((k : Int) < (k : Int)) := by omega
      have hr1 : R = true := by
        rw [← HRR.out]
        refine decide_eq_true ?_
        have h := HT.out
        rw [List.take_of_length_le (by rw [HN.out]; exact Nat.le_refl _), List.take_of_length_le (by rw [HM.out]; exact Nat.le_refl _)] at h
        exact h
      subst hr1
      go_wp2_with fail
      go_ret
      exact ⟨rfl, HBR.out⟩

set_option maxRecDepth 8000 in
set_option maxHeartbeats 4000000 in
theorem eqFields_any (p q : Value) (A B : List Fld) (w : World) (hA : Reads2 w p A) (hB : Reads2 w q B) (hl : A.length ≤ 1000000) :
    Calls Tryd.prog 44 #[p, q] w fun e w' => e = .returned (.bool (decide (A = B))) ∧ Below w.heap.size w w' := by
  obtain ⟨ao, ac, rfl⟩ := hA.form
  obtain ⟨bo, bc, rfl⟩ := hB.form
  obtain ⟨R, hR⟩ : ∃ R, decide (A = B) = R := ⟨_, rfl⟩
  rw [hR]
  have HRR := hid hR
  have HA := hid hA
  have HB := hid hB
  obtain ⟨n, hn⟩ : ∃ n, A.length = n := ⟨_, rfl⟩
  obtain ⟨m, hm⟩ : ∃ m, B.length = m := ⟨_, rfl⟩
  have HN := hid hn
  have HM := hid hm
  rw [hn] at hl ⊢
  rw [hm]
  clear hA hB hR hn hm
  go_enter Tryd.func44, Tryd.ntmps44
  by_cases hnm : n = m
  rotate_left
  · have hr0 : R = false := by
      rw [← HRR.out]
      exact decide_eq_false (fun h => hnm (by rw [← HN.out, ← HM.out, h]))
    subst hr0
    have d1 : ((n : Int) == (m : Int)) = false := by rw [beq_eq_false_iff_ne]; omega
    have d2 : ((n : Int) != (m : Int)) = true := by simp [bne, d1]
    go_wp2_with fail
    go_ret
    exact ⟨rfl, Below.refl _ _⟩
  subst hnm
  have d1 : ((n : Int) == (n : Int)) = true := by simp
  have d2 : ((n : Int) != (n : Int)) = false := by simp
  go_wp2_with fail
  go_loopw [13] (fun i wr => ∃ k : Nat, k ≤ n ∧ i = .int .i64 (k : Int) ∧ A.take k = B.take k ∧ Below w.heap.size w wr) (fun i _ => n - (intOf i).toNat)
  case atStart => exact ⟨0, Nat.zero_le _, rfl, rfl, Below.refl _ _⟩
  case round =>
    obtain ⟨k, hk, rfl, htk, hbr⟩ := hrel
    have HT := hid htk
    have HBR := hid hbr
    clear htk
    by_cases hlt : k < n
    · obtain ⟨x, hx⟩ : ∃ x, A[k]? = some x := ⟨_, List.getElem?_eq_getElem (by rw [HN.out]; exact hlt)⟩
      obtain ⟨y, hy⟩ : ∃ y, B[k]? = some y := ⟨_, List.getElem?_eq_getElem (by rw [HM.out]; exact hlt)⟩
      have hsame : x = y → A.take (k + 1) = B.take (k + 1) := fun e => by
        rw [List.take_add_one, List.take_add_one, hx, hy, HT.out, e]
      have hno : x ≠ y → R = false := fun hne => by
        rw [← HRR.out]
        refine decide_eq_false (fun h => hne ?_)
        rw [h, hy] at hx
        exact (Option.some.inj hx).symm
      have HS := hid hsame
      have HNO := hid hno
      obtain ⟨b1, o1, hao1, c1, c2⟩ := (HA.out.below hbr).fld hx
      obtain ⟨b2, o2, hao2, c3, c4⟩ := (HB.out.below hbr).fld hy
      subst hao1 hao2
      have hkI : (k : Int) < (n : Int) := by omega
      have hk0 : (0 : Int) ≤ (k : Int) := by omega
      have hkw : IntKind.i64.wrap ((k : Int) + 1) = (k : Int) + 1 := IntWalk.i64_in _ (by omega)
      clear hsame hno hx hy hbr
      by_cases hxy : x = y
      · subst hxy
        have HS1 := hid (HS.out rfl)
        have e1 := fun W => neqFld x x W
        have e3 : decide (x = x) = true := decide_eq_true rfl
        have e2 := e1
        rw [e3] at e1
        go_wp2_with fail
        go_quiet (fail)
        have hb := below_drewN (Below.refl wr.heap.size wr) nq
        generalize wr.drewN nq = V at hb ⊢
        have HBV := hid (chain2 HBR.out HBR.out.size hb)
        clear hb c1 c2 c3 c4
        go_wp2_with fail
        go_roundw
        case rel => exact ⟨k + 1, hlt, by go_num, HS1.out, HBV.out⟩
        case measure => simp [intOf]; omega
      · have hr0 : R = false := HNO.out hxy
        subst hr0
        have e1 := fun W => neqFld x y W
        have e3 : decide (x = y) = false := decide_eq_false hxy
        rw [e3] at e1
        clear hxy
        go_wp2_with fail
        go_quiet (fail)
        have hb := below_drewN (Below.refl wr.heap.size wr) nq
        generalize wr.drewN nq = V at hb ⊢
        have HBV := hid (chain2 HBR.out HBR.out.size hb)
        clear hb c1 c2 c3 c4
        go_wp2_with fail
        go_ret
        exact ⟨rfl, HBV.out⟩
    · have hkn : k = n := by omega
      subst hkn
      have hkx : ¬ ((k : Int) < (k : Int)) := by omega
      have hr1 : R = true := by
        rw [← HRR.out]
        refine decide_eq_true ?_
        have h := HT.out
        rw [List.take_of_length_le (by rw [HN.out]; exact Nat.le_refl _), List.take_of_length_le (by rw [HM.out]; exact Nat.le_refl _)] at h
        exact h
      subst hr1
      go_wp2_with fail
      go_ret
      exact ⟨rfl, HBR.out⟩

theorem eqBytes_any (p q : Value) (A B : List UInt8) (w : World) (hA : Reads w p (A.map byteV)) (hB : Reads w q (B.map byteV)) :
    Calls Tryd.prog 45 #[p, q] w fun e w' => e = .returned (.bool (decide (A = B))) ∧ Below w.heap.size w w' := by
  have h1 := reads_string (P := Tryd.prog) hA 25 9 5 Tryd.underlying25 Tryd.underlying5 Tryd.underlying9
  have h2 := reads_string (P := Tryd.prog) hB 25 9 5 Tryd.underlying25 Tryd.underlying5 Tryd.underlying9
  have hd : decide (A = B) = (A == B) := by rw [Bool.eq_iff_iff]; simp
  rw [hd]
  go_enter Tryd.func45, Tryd.ntmps45
  go_wp2_with fail
  go_ret
  exact ⟨rfl, Below.refl _ _⟩
end Go.Proofs.YtdkhkeffheleeaaDoor

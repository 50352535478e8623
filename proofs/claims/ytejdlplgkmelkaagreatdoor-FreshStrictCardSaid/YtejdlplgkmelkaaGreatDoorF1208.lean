/-
  Several texts in one: SmallOk, Ref11P.
-/
import Derived.Test.YtejdlplgkmelkaaGreatDoorF1207
import Derived.Test.YtejdlplgkmelkaaGreatDoorF1201
import Derived.Test.YtejdlplgkmelkaaGreatDoorF1202
set_option linter.unusedVariables false
set_option linter.unusedSimpArgs false
/-
  Fields that keys are made of are fields that package field takes.
-/
namespace Go.Proofs.YtejdlplgkmelkaaGreatDoor
open Go.RowKit Go.Pantry

theorem SmallF.okFs {l : List Fld} (h : SmallF l) : okFs l := ⟨Nat.le_trans h.len (by decide), fun f hf => ⟨Nat.le_trans (h.name f hf) (by decide), Nat.le_trans (h.val f hf) (by decide)⟩⟩
end Go.Proofs.YtejdlplgkmelkaaGreatDoor
/-
  The document's answers of layer 11: put.
-/
namespace Go.Pantry
open Go.RowKit
theorem riseL_len (l : List (List UInt8)) (h : List UInt8) : (riseL l h).length ≤ l.length + 1 := by
  induction l with
  | nil => simp [riseL]
  | cons x l ih =>
    unfold riseL
    split
    · simp; omega
    · split <;> simp
end Go.Pantry
namespace Go.Proofs.YtejdlplgkmelkaaGreatDoor
open Go.RowKit Go.Pantry

set_option maxRecDepth 8000 in
set_option maxHeartbeats 4000000 in
theorem refPut_any (v : Value) (l : List (List UInt8)) (h : List UInt8) (w : World) (hr : Reads w v (l.map strV)) (hl : l.length ≤ 1000000) :
    Calls Tryz.prog 61 #[v, strV h] w fun e w' => ∃ v' n, e = .returned v' ∧ w'.ownsRow w.heap.size 9 1 v' n ((riseL l h).map strV) ∧ Below w.heap.size w w' := by
  obtain ⟨ao, c, e1⟩ := hr.form
  obtain ⟨n, hn⟩ : ∃ n, l.length = n := ⟨_, rfl⟩
  rw [List.length_map, hn] at e1
  subst e1
  have HR := hid hr
  have HN := hid hn
  rw [hn] at hl
  clear hr hn
  go_enter Tryz.func61, Tryz.ntmps61
  go_wp2_with fail
  go_loopw [5, 6, 7] (fun out dn z wr => ∃ (k : Nat) (O : List (List UInt8)) (q : Bool) (N : Nat), z = .int .i64 (k : Int) ∧ k ≤ n ∧ dn = .bool q ∧ wr.ownsRow w.heap.size 9 1 out N (O.map strV) ∧ O ++ (if q then l.drop k else riseL (l.drop k) h) = riseL l h ∧ Below w.heap.size w wr) (fun _ _ z _ => n - (intOf z).toNat)
  case atStart => exact ⟨0, [], false, 0, rfl, Nat.zero_le _, rfl, World.ownsRow_nil _ _ _ _, rfl, Below.refl _ _⟩
  case round =>
    obtain ⟨k, O, q, N, rfl, hk, rfl, ho, heq, hb⟩ := hrel
    have hNO : N = O.length := by have := ho.1; rw [List.length_map] at this; omega
    subst hNO
    have HEQ := hid heq
    have HB := hid hb
    have hOl : O.length ≤ 1000001 := by
      have h1 := congrArg List.length heq
      rw [List.length_append] at h1
      have h2 := riseL_len l h
      have := HN.out
      omega
    have hsz := hb.size
    by_cases hlt : k < n
    · obtain ⟨x, hx⟩ : ∃ x, l[k]? = some x := by
        have := HN.out
        exact ⟨l[k]'(by omega), List.getElem?_eq_getElem (by omega)⟩
      have hxm : (l.map strV)[k]? = some (strV x) := by rw [List.getElem?_map, hx]; rfl
      obtain ⟨a1, c1', e1, f1, hz1⟩ := HR.out
      injection e1 with e1 k1 k2
      clear k1 k2
      subst e1
      obtain ⟨b2, o2, g2, i0⟩ := f1 k _ hxm
      subst g2
      have D0 := hid i0
      have i2 := kept i0 hb
      clear i0
      have hkI : (k : Int) < (n : Int) := by omega
      have hk0 : (0 : Int) ≤ (k : Int) := by omega
      have hkw : IntKind.i64.wrap ((k : Int) + 1) = (k : Int) + 1 := IntWalk.i64_in _ (by omega)
      have hdk : l.drop k = x :: l.drop (k + 1) := by
        obtain ⟨h1, rfl⟩ := List.getElem?_eq_some_iff.1 hx
        exact List.drop_eq_getElem_cons h1
      have HDK := hid hdk
      clear hb f1 hx hxm hz1 heq hdk
      have NEXT : Hid (∀ (O' : List (List UInt8)) (q' : Bool), O' ++ (if q' then l.drop (k + 1) else riseL (l.drop (k + 1)) h) = riseL l h → O' ++ (if q' then l.drop (k + 1) else riseL (l.drop (k + 1)) h) = riseL l h) := fun _ _ h => h
      clear NEXT
      cases q
      · by_cases hlx : x < h
        · have zl : Op.bytesLess x h = true := by have := ltL_iff x h; unfold ltL at this; rw [this]; exact decide_eq_true hlx
          have HE := hid (show (O ++ [x]) ++ (if false = true then l.drop (k + 1) else riseL (l.drop (k + 1)) h) = riseL l h by
            have e := HEQ.out
            rw [HDK.out] at e
            simp only [Bool.false_eq_true, if_false] at e ⊢
            rw [riseL, if_pos hlx] at e
            rw [← e]; simp)
          clear hlx
          go_wp2_with (at_builtin; go_must (refine wpList_append_one _ rfl _ _ 22 rfl w.heap.size 9 Tryz.underlying22 infoStr rfl (by decide) rfl ho rfl (by first | rfl | simp) (by omega) hsz ?_); intro v3 w3 hown3 hg3 hb3)
          have HO3 := hid hown3
          have HB3 := hid (HB.out.trans hb3)
          clear hown3 hg3 hb3
          go_roundw
          case rel => exact ⟨k + 1, O ++ [x], false, O.length + 1, by go_num, hlt, rfl, by rw [List.map_append]; exact HO3.out, HE.out, HB3.out⟩
          case measure => simp [intOf]; omega
        · have zl : Op.bytesLess x h = false := by have := ltL_iff x h; unfold ltL at this; rw [this]; exact decide_eq_false hlx
          by_cases hxh : x = h
          · have zh : (x == h) = true := by simpa using hxh
            have HE := hid (show (O ++ [x]) ++ (if true = true then l.drop (k + 1) else riseL (l.drop (k + 1)) h) = riseL l h by
              have e := HEQ.out
              rw [HDK.out] at e
              simp only [Bool.false_eq_true, if_false, if_true] at e ⊢
              rw [riseL, if_neg hlx, if_pos hxh] at e
              rw [← e]; simp)
            clear hlx hxh
            go_wp2_with (at_builtin; go_must (refine wpList_append_one _ rfl _ _ 22 rfl w.heap.size 9 Tryz.underlying22 infoStr rfl (by decide) rfl ho rfl (by first | rfl | simp) (by omega) hsz ?_); intro v3 w3 hown3 hg3 hb3)
            have HO3 := hid hown3
            have HB3 := hid (HB.out.trans hb3)
            clear hown3 hg3 hb3
            go_roundw
            case rel => exact ⟨k + 1, O ++ [x], true, O.length + 1, by go_num, hlt, rfl, by rw [List.map_append]; exact HO3.out, HE.out, HB3.out⟩
            case measure => simp [intOf]; omega
          · have zh : (x == h) = false := by simpa using hxh
            have HE := hid (show ((O ++ [h]) ++ [x]) ++ (if true = true then l.drop (k + 1) else riseL (l.drop (k + 1)) h) = riseL l h by
              have e := HEQ.out
              rw [HDK.out] at e
              simp only [Bool.false_eq_true, if_false, if_true] at e ⊢
              rw [riseL, if_neg hlx, if_neg hxh] at e
              rw [← e]; simp)
            clear hlx hxh
            go_wp2_with (first
              | (at_builtin; refine wpList_append_one _ rfl _ _ 22 rfl w.heap.size 9 Tryz.underlying22 infoStr rfl (by decide) rfl ho rfl (by first | rfl | simp) (by omega) hsz ?_; intro v3 w3 hown3 hg3 hb3; have d3 := kept D0.out (HB.out.trans hb3); have hsz3 := (HB.out.trans hb3).size)
              | (at_builtin; refine wpList_append_one _ rfl _ _ 22 rfl w.heap.size 9 Tryz.underlying22 infoStr rfl (by decide) rfl hown3 rfl (by first | rfl | simp) (by omega) hsz3 ?_; intro v4 w4 hown4 hg4 hb4))
            have HO3 := hid hown4
            have HB3 := hid ((HB.out.trans hb3).trans hb4)
            clear hown3 hg3 hb3 hown4 hg4 hb4
            go_roundw
            case rel => exact ⟨k + 1, (O ++ [h]) ++ [x], true, O.length + 1 + 1, by go_num, hlt, rfl, by rw [List.map_append, List.map_append]; exact HO3.out, HE.out, HB3.out⟩
            case measure => simp [intOf]; omega
      · have HE := hid (show (O ++ [x]) ++ (if true = true then l.drop (k + 1) else riseL (l.drop (k + 1)) h) = riseL l h by
          have e := HEQ.out
          rw [HDK.out] at e
          simp only [if_true] at e ⊢
          rw [← e]; simp)
        go_wp2_with (at_builtin; go_must (refine wpList_append_one _ rfl _ _ 22 rfl w.heap.size 9 Tryz.underlying22 infoStr rfl (by decide) rfl ho rfl (by first | rfl | simp) (by omega) hsz ?_); intro v3 w3 hown3 hg3 hb3)
        have HO3 := hid hown3
        have HB3 := hid (HB.out.trans hb3)
        clear hown3 hg3 hb3
        go_roundw
        case rel => exact ⟨k + 1, O ++ [x], true, O.length + 1, by go_num, hlt, rfl, by rw [List.map_append]; exact HO3.out, HE.out, HB3.out⟩
        case measure => simp [intOf]; omega
    · have hkn : k = n := by omega
      have e0 : l.drop k = [] := List.drop_eq_nil_of_le (by have := HN.out; omega)
      rw [e0] at heq
      clear hb HEQ
      cases q
      · simp only [Bool.false_eq_true, if_false] at heq
        have HE := hid (show O ++ [h] = riseL l h from heq)
        clear heq e0
        go_wp2_with (at_builtin; go_must (refine wpList_append_one _ rfl _ _ 22 rfl w.heap.size 9 Tryz.underlying22 infoStr rfl (by decide) rfl ho rfl (by first | rfl | simp) (by omega) hsz ?_); intro v3 w3 hown3 hg3 hb3)
        have HO3 := hid hown3
        have HB3 := hid (HB.out.trans hb3)
        clear hown3 hg3 hb3
        go_ret
        exact ⟨_, _, rfl, by rw [← HE.out, List.map_append]; exact HO3.out, HB3.out⟩
      · simp only [if_true, List.append_nil] at heq
        have HE := hid heq
        have HO := hid ho
        clear heq e0 ho
        go_wp2_with fail
        go_ret
        exact ⟨_, _, rfl, by rw [← HE.out]; exact HO.out, HB.out⟩
end Go.Proofs.YtejdlplgkmelkaaGreatDoor

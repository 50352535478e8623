/-
  Contracts of package wire: lengthOf, bodiless, join.
-/
import Derived.Test.YtongceljdgmbdaaGreatDoorWireI
import Derived.Test.YtongceljdgmbdaaGreatDoorWireA
import Derived.Test.YtongceljdgmbdaaGreatDoorBodyJ
namespace Go.Proofs.YtongceljdgmbdaaGreatDoor
open Go.RowKit Go.Pantry

theorem infoFieldS : (Tryz.prog.info? 104).map (·.size) = some 2 := by kernel_rfl
theorem one2s (a b : List UInt8) : (#[strV a, strV b] : Array Value).all (·.oneCell') = true := by simp [Value.oneCell']
set_option maxRecDepth 100000 in
theorem lengthOf_any (ao : Option Addr) (n c : Nat) (hn : n < 100000) (w : World) (ht : Tab10 w) :
    Calls Tryz.prog 43 #[.slice ao n c] w fun e w' => e = .returned (.agg #[strV clN, strV (decL n)]) ∧ Below w.heap.size w w' := by
  obtain ⟨W0, hW0⟩ : ∃ W, W = w.alloc (.cells #[.string ⟨#[]⟩, .string ⟨#[]⟩] 104) := ⟨_, rfl⟩
  have hb0 : Below w.heap.size w W0 := by rw [hW0]; exact below_alloc _ _
  have hres : rowIs W0 w.heap.size #[.string ⟨#[]⟩, .string ⟨#[]⟩] 104 := by rw [hW0]; exact rowIs_new _ _ _
  have C1 := hid (itoa_any n (by omega) W0 (ht.below hb0))
  go_enter Tryz.func43, Tryz.ntmps43
  go_wp2_with fail
  rw [← hW0]
  clear hW0
  refine C1.out.mono ?_
  rintro e w1 ⟨rfl, hb1⟩
  have HR := hid (hres.below hb1)
  have HB := hid (chain2 hb0 hb0.size hb1)
  clear C1 hres hb0 hb1 ht
  go_wp2_with (refine wpList_store_row rfl 104 _ _ rfl w.heap.size _ rfl rfl 104 #[.string ⟨#[]⟩, .string ⟨#[]⟩] HR.out infoFieldS rfl (one2s clN (decL n)) ?_)
  refine bodyPost_ret (results_row Tryz.results43 _ _ w.heap.size _ rfl (HR.out.setRow #[strV clN, strV (decL n)]) Tryz.underlying104 rfl infoFieldS) rfl ?_
  exact ⟨rfl, below_setRow HB.out (Nat.le_refl _) _⟩
theorem eqlFr0 (w : World) : (binOp .eql 96 (.agg #[.int .i64 0, .int .i64 0]) (.agg #[.int .i64 0, .int .i64 0])).run Tryz.prog w = .ok (.bool true) w := by kernel_rfl
theorem eqlFr3 (w : World) : (binOp .eql 96 (.agg #[.int .i64 3, .int .i64 0]) (.agg #[.int .i64 0, .int .i64 0])).run Tryz.prog w = .ok (.bool false) w := by kernel_rfl
set_option maxRecDepth 100000 in
theorem bodiless_any (mt : List UInt8) (st : Int) (w : World) :
    Calls Tryz.prog 51 #[strV mt, .int .i64 st] w fun e w' => e = .returned (.bool (bareX (mt == [72, 69, 65, 68]) st)) ∧ Below w.heap.size w w' := by
  have c1 := OfResponse_any mt [] st 0 (.slice none 0 0) [] w ⟨none, 0, rfl, (fun j p hj => by cases hj), (fun _ => rfl), by simp⟩ ⟨by simp, fun f hf => by cases hf⟩
  rw [show frameX 0 3 [] = .ok (3, 0) by rfl] at c1
  have e0 := fun W => eqlFr0 W
  have e3 := fun W => eqlFr3 W
  cases hx : bareX (mt == [72, 69, 65, 68]) st with
  | true =>
    rw [hx, if_pos rfl] at c1
    have C1 := hid c1
    clear c1 hx
    go_enter Tryz.func51, Tryz.ntmps51
    go_wp2_with fail
    refine C1.out.mono ?_
    rintro e w1 ⟨hf, hb1⟩
    have hf2 : e = .returned (.tuple #[.agg #[.int .i64 0, .int .i64 0], .int .i64 0]) := hf
    subst hf2
    clear hf C1
    go_wp2_with fail
    go_ret
    exact ⟨rfl, hb1.alloc hb1.size _⟩
  | false =>
    rw [hx, if_neg (by simp)] at c1
    have C1 := hid c1
    clear c1 hx
    go_enter Tryz.func51, Tryz.ntmps51
    go_wp2_with fail
    refine C1.out.mono ?_
    rintro e w1 ⟨hf, hb1⟩
    have hf2 : e = .returned (.tuple #[.agg #[.int .i64 3, .int .i64 0], .int .i64 0]) := hf
    subst hf2
    clear hf C1
    go_wp2_with fail
    go_ret
    exact ⟨rfl, hb1.alloc hb1.size _⟩
/-- what writing tells -/
def PutPost (_B : Nat) (x : Except Nat (List UInt8)) (e : Ending) (w' : World) : Prop := match x with
  | .error k => k ≠ 0 ∧ e = .returned (.tuple #[.slice none 0 0, .int .i64 (k : Int)])
  | .ok s => ∃ ao c, e = .returned (.tuple #[.slice ao s.length c, .int .i64 0]) ∧ Bytes w' (.slice ao s.length c) s
set_option maxRecDepth 100000 in
theorem join_err (T : List UInt8) (k : Nat) (hk : k ≠ 0) (ao : Option Addr) (n c : Nat) (w : World) :
    Calls Tryz.prog 45 #[strV T, .int .i64 (k : Int), .slice ao n c] w fun e w' => e = .returned (.tuple #[.slice none 0 0, .int .i64 (k : Int)]) ∧ w = w' := by
  have hz : ((k : Int) != 0) = true := by simp; omega
  go_enter Tryz.func45, Tryz.ntmps45
  go_wp2
  go_ret2
  exact ⟨rfl, rfl⟩
set_option maxRecDepth 100000 in
theorem join_ok (T b : List UInt8) (vb : Value) (w : World) (hb : Bytes w vb b) (hT : T.length ≤ 100000) (hbl : b.length ≤ 1000000000) :
    Calls Tryz.prog 45 #[strV T, .int .i64 0, vb] w fun e w' => PutPost w.heap.size (if 2048 < b.length then .error 23 else .ok (T ++ b)) e w' ∧ Below w.heap.size w w' := by
  obtain ⟨aob, cb, rfl, hcb⟩ := bytes_form hb
  by_cases h : 2048 < b.length
  · rw [if_pos h]
    have hz : (2048 : Int) < (b.length : Int) := by omega
    clear hb
    go_enter Tryz.func45, Tryz.ntmps45
    go_wp2
    go_ret2
    exact ⟨⟨by decide, rfl⟩, Below.refl _ _⟩
  · rw [if_neg h]
    have hz : ¬ (2048 : Int) < (b.length : Int) := by omega
    obtain ⟨capb, W8, cur, fz, hcv, hg8, hfz, hcc, htk, hxc, hbW8⟩ := bytes_conv (P := Tryz.prog) w T 9 27 5 Tryz.underlying9 Tryz.underlying27 Tryz.underlying5
    have hxl : (T.map byteV).length = T.length := List.length_map ..
    have hrest := (bytesRead hb).below hbW8
    rw [← hxl] at htk hxc
    have hnn : (T.map byteV).length + (b.map byteV).length < 4294967296 := by rw [List.length_map, List.length_map]; omega
    have HA := hid (And.intro hg8 (And.intro hfz (And.intro hcc (And.intro htk (And.intro hxc (And.intro hrest (And.intro hnn hbW8)))))))
    clear hg8 hfz hcc htk hxc hrest hnn hbW8 hb
    go_enter Tryz.func45, Tryz.ntmps45
    go_wp2_with (at_builtin; (refine wpList_append_marked2 _ rfl _ _ 27 rfl w.heap.size 5 Tryz.underlying27 infoU8 (by decide) (T.map byteV) (by rw [hxl]; rfl) HA.out.1 HA.out.2.1 HA.out.2.2.1 HA.out.2.2.2.1 HA.out.2.2.2.2.1 HA.out.2.2.2.2.2.1 (oneCell_bytes b) rfl HA.out.2.2.2.2.2.2.1 (Nat.le_refl _) ?_); intro v9 w9 hrd9 hrm9 hb9)
    obtain ⟨-, -, -, -, -, -, -, hbW8⟩ := HA.out
    rw [← List.map_append] at hrd9
    obtain ⟨ao5, cp5, rfl⟩ := hrd9.form
    rw [List.length_map] at hrd9 hrm9 ⊢
    have hroom := hrm9 _ _ _ rfl
    go_ret2
    exact ⟨⟨ao5, cp5, rfl, bytes_of hrd9 hroom⟩, hbW8.trans hb9⟩
end Go.Proofs.YtongceljdgmbdaaGreatDoor

/-
  The walks of the statements of layer 5: anchor, small.
-/
import Derived.Test.YtfoghjhdjmapnaaGreatDoorHeadG
import Derived.Test.YtfoghjhdjmapnaaGreatDoorFieldE
import Derived.Lib.SlBytesConst
namespace Go.Proofs.YtfoghjhdjmapnaaGreatDoor
open Go.RowKit Go.Pantry

def exA : List UInt8 := [71, 69, 84, 32, 47, 32, 72, 84, 84, 80, 47, 49, 46, 49, 13, 10, 72, 111, 115, 116, 58, 32, 97, 13, 10, 13, 10, 120]
def exB : List UInt8 := [71, 69, 84, 32, 32, 47, 32, 72, 84, 84, 80, 47, 49, 46, 49, 13, 10, 13, 10]
def exH : Fld := ([72, 111, 115, 116], [97])
theorem exA_reads : readL reqL exA = .ok (⟨[71, 69, 84], [47], 0, 1, [exH]⟩, 27) := by kernel_rfl
theorem exB_reads : readL reqL exB = .error 21 := by kernel_rfl
theorem bytes_new (w : World) (l : List UInt8) (c : Array Value) (hc : c = (l.map byteV).toArray) (e : TypeId) (fz : Nat × Nat) (n : Nat) : Reads (w.alloc (.cells c e fz)) (.slice (some ⟨w.heap.size, 0, none⟩) l.length n) (l.map byteV) := by
  subst hc
  refine ⟨_, n, by rw [List.length_map], fun j u hj => ⟨w.heap.size, 0, rfl, ?_⟩, fun e => by cases e⟩
  rw [Nat.zero_add, World.cell?_alloc_mark]
  simpa using hj
theorem conv_at (w : World) (t e : TypeId) (C : Array Value) (n c g : Nat) (hg : g = w.heap.size) (ht : Tryz.prog.underlying t = some (.slice e)) (he : Tryz.prog.underlying e = some (.int .u8)) :
    (convert t t (.slice (some ⟨g, 0, none⟩) n c)).run Tryz.prog (w.alloc (.cells C e)) = .ok (.slice (some ⟨g, 0, none⟩) n c) (w.alloc (.cells C e (C.size, C.size + 1))) := by
  subst hg; exact Lib.run_convert_bytes_const w t e C n c ht he
theorem MaxOk.alloc {w : World} (h : MaxOk w) (o : Obj) : MaxOk (w.alloc o) := h.below (below_alloc _ _)
theorem rdA (w : World) (fz : Nat × Nat) (hm : MaxOk w) : Calls Tryz.prog 5 #[.slice (some ⟨w.heap.size, 0, none⟩) 28 28] (w.alloc (.cells #[Value.int .u8 71, Value.int .u8 69, Value.int .u8 84, Value.int .u8 32, Value.int .u8 47, Value.int .u8 32, Value.int .u8 72, Value.int .u8 84, Value.int .u8 84, Value.int .u8 80, Value.int .u8 47, Value.int .u8 49, Value.int .u8 46, Value.int .u8 49, Value.int .u8 13, Value.int .u8 10, Value.int .u8 72, Value.int .u8 111, Value.int .u8 115, Value.int .u8 116, Value.int .u8 58, Value.int .u8 32, Value.int .u8 97, Value.int .u8 13, Value.int .u8 10, Value.int .u8 13, Value.int .u8 10, Value.int .u8 120] 5 fz)) fun e w' =>
    (∃ v', e = .returned (.tuple #[.agg #[strV [71, 69, 84], strV [47], .int .i64 1, v'], .int .i64 27, .int .i64 0]) ∧ w'.ownsRow w.heap.size 73 2 v' 1 (fldCells [exH])) ∧ Below w.heap.size w w' := by
  have hr := bytes_new w exA #[Value.int .u8 71, Value.int .u8 69, Value.int .u8 84, Value.int .u8 32, Value.int .u8 47, Value.int .u8 32, Value.int .u8 72, Value.int .u8 84, Value.int .u8 84, Value.int .u8 80, Value.int .u8 47, Value.int .u8 49, Value.int .u8 46, Value.int .u8 49, Value.int .u8 13, Value.int .u8 10, Value.int .u8 72, Value.int .u8 111, Value.int .u8 115, Value.int .u8 116, Value.int .u8 58, Value.int .u8 32, Value.int .u8 97, Value.int .u8 13, Value.int .u8 10, Value.int .u8 13, Value.int .u8 10, Value.int .u8 120] rfl 5 fz 28
  have h := ReadRequest_any (some ⟨w.heap.size, 0, none⟩) 28 exA _ hr (by decide) (hm.alloc _)
  rw [exA_reads] at h
  refine h.mono ?_
  rintro e w' ⟨⟨v', he, ho⟩, hb⟩
  exact ⟨⟨v', he, ho.base (by simp)⟩, (below_alloc _ _).trans (hb.mono (by simp))⟩
theorem rdB (w : World) (fz : Nat × Nat) (hm : MaxOk w) : Calls Tryz.prog 5 #[.slice (some ⟨w.heap.size, 0, none⟩) 19 19] (w.alloc (.cells #[Value.int .u8 71, Value.int .u8 69, Value.int .u8 84, Value.int .u8 32, Value.int .u8 32, Value.int .u8 47, Value.int .u8 32, Value.int .u8 72, Value.int .u8 84, Value.int .u8 84, Value.int .u8 80, Value.int .u8 47, Value.int .u8 49, Value.int .u8 46, Value.int .u8 49, Value.int .u8 13, Value.int .u8 10, Value.int .u8 13, Value.int .u8 10] 5 fz)) fun e w' =>
    e = .returned (.tuple #[reqV [] [] 0 none 0 0, .int .i64 0, .int .i64 21]) ∧ Below w.heap.size w w' := by
  have hr := bytes_new w exB #[Value.int .u8 71, Value.int .u8 69, Value.int .u8 84, Value.int .u8 32, Value.int .u8 32, Value.int .u8 47, Value.int .u8 32, Value.int .u8 72, Value.int .u8 84, Value.int .u8 84, Value.int .u8 80, Value.int .u8 47, Value.int .u8 49, Value.int .u8 46, Value.int .u8 49, Value.int .u8 13, Value.int .u8 10, Value.int .u8 13, Value.int .u8 10] rfl 5 fz 19
  have h := ReadRequest_any (some ⟨w.heap.size, 0, none⟩) 19 exB _ hr (by decide) (hm.alloc _)
  rw [exB_reads] at h
  refine h.mono ?_
  rintro e w' ⟨⟨_, he⟩, hb⟩
  exact ⟨he, (below_alloc _ _).trans (hb.mono (by simp))⟩
theorem getHost (v : Value) (w : World) (hr : Reads2 w v [exH]) :
    Calls Tryz.prog 13 #[v, .string ⟨#[104, 111, 115, 116]⟩] w fun e w' => e = .returned (.tuple #[strV [97], .bool true]) ∧ Below w.heap.size w w' := by
  have h := lGet_any v [exH] ⟨#[104, 111, 115, 116]⟩ w hr ⟨by decide, by decide⟩ (by decide)
  have e1 : getF [exH] (⟨#[104, 111, 115, 116]⟩ : ByteArray).data.toList = [97] := by decide +kernel
  have e2 : (!(allF [exH] (⟨#[104, 111, 115, 116]⟩ : ByteArray).data.toList).isEmpty) = true := by decide +kernel
  rw [e1, e2] at h
  exact h
set_option maxRecDepth 100000 in
set_option maxHeartbeats 4000000 in
theorem anchor_any (w : World) (hm : MaxOk w) :
    Calls Tryz.prog 4 #[] w fun e w' => e = .returned (.bool true) ∧ Below w.heap.size w w' := by
  have C1 := hid (fun fz => rdA w fz hm)
  have C2 := hid (fun W fz h => rdB W fz h)
  have C3 := hid (fun W v h => getHost v W h)
  have kc := fun (w : World) (C : Array Value) (n c : Nat) => Lib.run_convert_bytes_const (P := Tryz.prog) w 22 5 C n c Tryz.underlying22 Tryz.underlying5
  go_enter Tryz.func4, Tryz.ntmps4
  go_wp2_with fail
  refine (C1.out _).mono ?_
  rintro e w1 ⟨⟨v', rfl, ho⟩, hb1⟩
  obtain ⟨ao, c, rfl⟩ := ownsRow_form ho
  have hm1 := hm.below hb1
  obtain ⟨W, hW⟩ : ∃ W, W = w1.alloc (.cells #[strV [71, 69, 84], strV [47], .int .i64 1, .slice ao 1 c] 29) := ⟨_, rfl⟩
  have hbW : Below w1.heap.size w1 W := by rw [hW]; exact below_alloc _ _
  have hg : rowIs W w1.heap.size #[strV [71, 69, 84], strV [47], .int .i64 1, .slice ao 1 c] 29 := by rw [hW]; exact rowIs_new _ _ _
  have ho1 := ho.below hbW
  have hm2 := hm1.below hbW
  have hb2 := chain2 hb1 hb1.size hbW
  clear ho hm1 hbW hb1 C1 hm kc
  have kc := conv_at (w1.alloc (.cells #[strV [71, 69, 84], strV [47], .int .i64 1, .slice ao 1 c] 29)) 22 5 #[Value.int .u8 71, Value.int .u8 69, Value.int .u8 84, Value.int .u8 32, Value.int .u8 32, Value.int .u8 47, Value.int .u8 32, Value.int .u8 72, Value.int .u8 84, Value.int .u8 84, Value.int .u8 80, Value.int .u8 47, Value.int .u8 49, Value.int .u8 46, Value.int .u8 49, Value.int .u8 13, Value.int .u8 10, Value.int .u8 13, Value.int .u8 10] 19 19 (w1.heap.size + 1) (by simp) Tryz.underlying22 Tryz.underlying5
  have hsW : W.heap.size = w1.heap.size + 1 := by rw [hW]; simp
  go_wp2_with fail
  clear kc
  rw [← hW]
  clear hW
  rw [← hsW]
  generalize w1.heap.size = G at *
  refine (C2.out _ _ hm2).mono ?_
  rintro e w2 ⟨rfl, hb3⟩
  have hg2 := hg.below hb3
  have ho2 := ho1.below hb3
  have hb4 := chain2 hb2 hb2.size hb3
  clear hg ho1 hb2 hb3 hm2 C2
  obtain ⟨W2, hW2⟩ : ∃ W, W = w2.alloc (.cells #[strV [], strV [], .int .i64 0, .slice none 0 0] 29) := ⟨_, rfl⟩
  have hbW : Below w2.heap.size w2 W2 := by rw [hW2]; exact below_alloc _ _
  have hg3 := hg2.below hbW
  have ho3 := ho2.below hbW
  have hb5 := chain2 hb4 hb4.size hbW
  have g3 : (w2.alloc (.cells #[strV [], strV [], .int .i64 0, .slice none 0 0] 29)).cell? ⟨G, 3, none⟩ = some (.slice ao 1 c) := by rw [← hW2]; exact hg3.cell 3
  have HR := hid (ho3.reads2).2
  clear hg2 ho2 hb4 hbW ho3
  go_wp2_with fail
  rw [← hW2]
  clear hW2 g3
  refine (C3.out _ _ HR.out).mono ?_
  rintro e w3 ⟨rfl, hb6⟩
  have g2 := (hg3.below hb6).cell 2
  have hb7 := chain2 hb5 hb5.size hb6
  clear hg3 hb5 hb6 HR C3
  go_wp2_with fail
  go_ret
  exact ⟨rfl, hb7⟩

end Go.Proofs.YtfoghjhdjmapnaaGreatDoor

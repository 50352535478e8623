/-
  The walks of the statements of layer 6: anchor.
-/
import Derived.Test.YtefplhkjcclppaaDoorBodyE
import Derived.Test.YtefplhkjcclppaaDoorBodyG
import Derived.Lib.SlBytesConst
namespace Go.Proofs.YtefplhkjcclppaaDoor
open Go.RowKit Go.Pantry

theorem bytes_lit (w : World) (l : List UInt8) (c : Array Value) (hc : c = (l.map byteV).toArray) (e : TypeId) (fz : Nat × Nat) (n : Nat) (hn : l.length ≤ n) : Bytes (w.alloc (.cells c e fz)) (.slice (some ⟨w.heap.size, 0, none⟩) l.length n) l := by
  subst hc
  refine ⟨_, n, rfl, hn, ⟨_, n, by rw [List.length_map], fun j u hj => ⟨w.heap.size, 0, rfl, ?_⟩, fun e => by cases e⟩⟩
  rw [Nat.zero_add, World.cell?_alloc_mark]
  simpa using hj
def exC : List UInt8 := [51, 13, 10, 97, 98, 99, 13, 10, 48, 13, 10, 13, 10, 120]
def exT : List UInt8 := [51, 13, 10, 97, 98, 99, 13, 10, 48, 13, 10, 13, 10]
theorem exC_reads : readF 2 0 false exC = .ok ([97, 98, 99], 13) := by kernel_rfl
theorem exT_chunks : chunksT (cutS [97, 98, 99] []) = exT := by
  have e : cutS [97, 98, 99] [] = [[97, 98, 99]] := by kernel_rfl
  rw [e]
  unfold chunksT chunkT exT crlfB
  simp only [List.flatMap_cons, List.flatMap_nil, List.length_cons, List.length_nil]
  have h3 : hexN (0 + 1 + 1 + 1) = [51] := hexN_small (by decide)
  have h0 : hexN 0 = [48] := hexN_small (by decide)
  rw [h3, h0]
  rfl
theorem rdC (w : World) (fz : Nat × Nat) : Calls Tryd.prog 10 #[.agg #[.int .i64 2, .int .i64 0], .slice (some ⟨w.heap.size, 0, none⟩) 14 14, .bool false] (w.alloc (.cells #[Value.int .u8 51, Value.int .u8 13, Value.int .u8 10, Value.int .u8 97, Value.int .u8 98, Value.int .u8 99, Value.int .u8 13, Value.int .u8 10, Value.int .u8 48, Value.int .u8 13, Value.int .u8 10, Value.int .u8 13, Value.int .u8 10, Value.int .u8 120] 5 fz)) fun e w' =>
    (∃ v', e = .returned (.tuple #[v', .int .i64 13, .int .i64 0]) ∧ w'.ownsRow w.heap.size 5 1 v' 3 (([97, 98, 99] : List UInt8).map byteV)) ∧ Below w.heap.size w w' := by
  have hr := bytes_lit w exC #[Value.int .u8 51, Value.int .u8 13, Value.int .u8 10, Value.int .u8 97, Value.int .u8 98, Value.int .u8 99, Value.int .u8 13, Value.int .u8 10, Value.int .u8 48, Value.int .u8 13, Value.int .u8 10, Value.int .u8 13, Value.int .u8 10, Value.int .u8 120] rfl 5 fz 14 (by decide)
  have h := Read_any 2 0 _ exC false _ hr (by decide)
  rw [exC_reads] at h
  refine h.mono ?_
  rintro e w' ⟨⟨v', he, ho⟩, hb⟩
  exact ⟨⟨v', he, ho.base (by simp)⟩, (below_alloc _ _).trans (hb.mono (by simp))⟩
theorem chC (w : World) (fz : Nat × Nat) (ht : Tab64 w) : Calls Tryd.prog 11 #[.slice (some ⟨w.heap.size, 0, none⟩) 3 3, .slice none 0 0] (w.alloc (.cells #[Value.int .u8 97, Value.int .u8 98, Value.int .u8 99] 5 fz)) fun e w' =>
    (∃ v', e = .returned v' ∧ w'.ownsRow w.heap.size 5 1 v' exT.length (exT.map byteV)) ∧ Below w.heap.size w w' := by
  have hr := bytes_lit w [97, 98, 99] #[Value.int .u8 97, Value.int .u8 98, Value.int .u8 99] rfl 5 fz 3 (by decide)
  have h := Chunks_any _ (.slice none 0 0) [97, 98, 99] [] _ (ht.below (below_alloc _ _)) hr (by decide) ⟨none, 0, rfl, (fun j u hj => by cases hj), fun _ => rfl⟩ (by decide)
  rw [exT_chunks] at h
  refine h.mono ?_
  rintro e w' ⟨⟨v', he, ho⟩, hb⟩
  exact ⟨⟨v', he, ho.base (by simp)⟩, (below_alloc _ _).trans (hb.mono (by simp))⟩
set_option maxRecDepth 100000 in
set_option maxHeartbeats 4000000 in
theorem anchor_any (w : World) (ht : Tab64 w) :
    Calls Tryd.prog 4 #[] w fun e w' => e = .returned (.bool true) ∧ Below w.heap.size w w' := by
  have C1 := hid (fun fz => rdC w fz)
  have C2 := hid (fun W fz h => chC W fz h)
  have kc := fun (w : World) (C : Array Value) (n c : Nat) => Lib.run_convert_bytes_const (P := Tryd.prog) w 41 5 C n c Tryd.underlying41 Tryd.underlying5
  go_enter Tryd.func4, Tryd.ntmps4
  go_wp2_with fail
  refine (C1.out _).mono ?_
  rintro e w1 ⟨⟨v', rfl, ho⟩, hb1⟩
  have ht1 := ht.below hb1
  clear C1
  go_wp2_with fail
  refine (C2.out _ _ ht1).mono ?_
  rintro e w2 ⟨⟨v2, rfl, ho2⟩, hb2⟩
  have cv2 := ownsRow_string ho2 41 9 Tryd.underlying41 Tryd.underlying5 Tryd.underlying9
  have cv1 := ownsRow_string (ho.below hb2) 41 9 Tryd.underlying41 Tryd.underlying5 Tryd.underlying9
  unfold exT at cv2
  have hb3 := chain2 hb1 hb1.size hb2
  clear ho ho2 hb1 hb2 kc C2
  go_wp2_with fail
  go_ret
  exact ⟨rfl, hb3⟩
end Go.Proofs.YtefplhkjcclppaaDoor

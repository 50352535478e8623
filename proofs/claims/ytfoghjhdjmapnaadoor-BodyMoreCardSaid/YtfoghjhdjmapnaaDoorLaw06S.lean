/-
  The walk of the statement BodySized.
-/
import Derived.Test.YtfoghjhdjmapnaaDoorLaw06A
namespace Go.Proofs.YtfoghjhdjmapnaaDoor
open Go.RowKit Go.Pantry

theorem readF_sized (l : List UInt8) (n : Nat) (c : Bool) (hn : n ≤ 2048) : readF 1 (n : Int) c l = if (l.length : Int) < (n : Int) then .error (lackN c) else .ok (l.take n, n) := by
  unfold readF
  rw [if_neg (by omega), if_neg (by decide), if_pos rfl, Int.toNat_natCast]
set_option maxRecDepth 100000 in
set_option maxHeartbeats 8000000 in
theorem bodySized_walk (v : Value) (l : List UInt8) (z : Int) (w : World) (ht : Tab64 w) (hl : Reads w v (l.map byteV) ∧ (∀ ao n cap, v = .slice ao n cap → n ≤ cap) ∧ l.length ≤ maxLen) :
    Calls Tryd.prog 7 #[v, .int .i64 z] w fun e w' => e = .returned (.bool true) ∧ Below w.heap.size w w' := by
  obtain ⟨hr, hroom, hll⟩ := hl
  obtain ⟨ao, cap, rfl⟩ := hr.form
  rw [List.length_map] at *
  have hc := hroom ao l.length cap rfl
  unfold maxLen at hll
  have hby : Bytes w (.slice ao l.length cap) l := bytes_of hr hc
  have HBY := hid hby
  have CA := hid (anchor_any w ht)
  clear hr hroom ht hby
  by_cases h1 : (3000 : Int) < (l.length : Int)
  · go_enter Tryd.func7, Tryd.ntmps7
    go_wp2_with fail
    refine CA.out.mono ?_
    rintro e w1 ⟨rfl, hb1⟩
    go_wp2_with fail
    go_ret
    exact ⟨rfl, hb1⟩
  by_cases h2 : z < 0
  · go_enter Tryd.func7, Tryd.ntmps7
    go_wp2_with fail
    refine CA.out.mono ?_
    rintro e w1 ⟨rfl, hb1⟩
    go_wp2_with fail
    go_ret
    exact ⟨rfl, hb1⟩
  by_cases h3 : 2048 < z
  · go_enter Tryd.func7, Tryd.ntmps7
    go_wp2_with fail
    refine CA.out.mono ?_
    rintro e w1 ⟨rfl, hb1⟩
    go_wp2_with fail
    go_ret
    exact ⟨rfl, hb1⟩
  obtain ⟨n, rfl⟩ : ∃ n : Nat, z = (n : Int) := ⟨z.toNat, by omega⟩
  have c1 := fun c W h => Read_any 1 (n : Int) (.slice ao l.length cap) l c W h (by omega)
  have e1 := readF_sized l n false (by omega)
  have e2 := readF_sized l n true (by omega)
  by_cases h4 : (l.length : Int) < (n : Int)
  · rw [if_pos h4] at e1 e2
    have c2 := fun W h => c1 false W h
    have c3 := fun W h => c1 true W h
    rw [e1] at c2
    rw [e2] at c3
    have C2 := hid c2
    have C3 := hid c3
    clear c1 c2 c3 e1 e2
    go_enter Tryd.func7, Tryd.ntmps7
    go_wp2_with fail
    refine CA.out.mono ?_
    rintro e w1 ⟨rfl, hb1⟩
    go_wp2_with fail
    refine (C2.out _ (bytes_below HBY.out hb1)).mono ?_
    rintro e w2 ⟨⟨-, rfl⟩, hb2⟩
    have hb3 := chain2 hb1 hb1.size hb2
    go_wp2_with fail
    refine (C3.out _ (bytes_below HBY.out hb3)).mono ?_
    rintro e w4 ⟨⟨-, rfl⟩, hb4⟩
    have hb5 := chain2 hb3 hb3.size hb4
    clear hb1 hb2 hb3 hb4
    unfold lackN
    go_wp2_with fail
    go_ret
    exact ⟨rfl, hb5⟩
  · rw [if_neg h4] at e1 e2
    have c2 := fun W h => c1 false W h
    have c3 := fun W h => c1 true W h
    rw [e1] at c2
    rw [e2] at c3
    have C2 := hid c2
    have C3 := hid c3
    clear c1 c2 c3 e1 e2
    go_enter Tryd.func7, Tryd.ntmps7
    go_wp2_with fail
    refine CA.out.mono ?_
    rintro e w1 ⟨rfl, hb1⟩
    go_wp2_with fail
    refine (C2.out _ (bytes_below HBY.out hb1)).mono ?_
    rintro e w2 ⟨⟨v2, rfl, ho2⟩, hb2⟩
    have hb3 := chain2 hb1 hb1.size hb2
    go_wp2_with fail
    refine (C3.out _ (bytes_below HBY.out hb3)).mono ?_
    rintro e w4 ⟨⟨v3, rfl, ho3⟩, hb4⟩
    have hb5 := chain2 hb3 hb3.size hb4
    have cv1 := fun k => ownsRow_string (P := Tryd.prog) (w := w4.drewN k) ((ho2.below hb4).below (below_drewN (Below.refl _ _) k)) 49 9 Tryd.underlying49 Tryd.underlying5 Tryd.underlying9
    have hrd := ((bytesRead (bytes_below HBY.out hb5)).take n (by rw [List.length_map]; omega))
    rw [← List.map_take] at hrd
    have hrl : (l.take n).length = n := by rw [List.length_take]; omega
    have cv2 := fun k => reads_string (P := Tryd.prog) (w := w4.drewN k) (hrd.below (below_drewN (Below.refl _ _) k)) 49 9 5 Tryd.underlying49 Tryd.underlying5 Tryd.underlying9
    clear hb1 hb2 hb3 hb4 ho2 ho3 hrd hrl C2 C3
    generalize l.take n = T at *
    go_wp2_with fail
    go_quiet (fail)
    go_wp2
    go_ret
    exact ⟨rfl, below_drewN hb5 _⟩
end Go.Proofs.YtfoghjhdjmapnaaDoor

/-
  The walk of the statement BodyMore.
-/
import Derived.Test.YtfoghjhdjmapnaaDoorLaw06C
import Derived.Test.YtfoghjhdjmapnaaDoorLaw06S
namespace Go.Proofs.YtfoghjhdjmapnaaDoor
open Go.RowKit Go.Pantry

theorem readF_cut (l : List UInt8) (zs : List Int) (c : Bool) (k : Nat) (h : l.length ≤ 2048) (hk : k < (chunksT (cutS l zs)).length) : readF 2 0 c ((chunksT (cutS l zs)).take k) = .error (lackN c) := by
  have hlk := lackN_ne c
  unfold readF
  rw [if_neg (by omega), if_neg (by decide), if_neg (by decide), if_pos rfl]
  have hl : ((chunksT (cutS l zs)).take k).length = k := by rw [List.length_take]; omega
  have e := chunks_cut hlk (cutS l zs) (k + 1 + (cutS l zs).length) [] k (fun x hx => (cutS_pos zs l x hx).1) (by omega) (by rw [cutS_flat]; simpa using h) hk
  rw [chunksL_fuel hlk _ (k + 1 + (cutS l zs).length) [] _ (by omega) (by omega), e]
  rfl
set_option maxRecDepth 100000 in
set_option maxHeartbeats 8000000 in
theorem bodyMore_walk (v : Value) (l : List UInt8) (vz : Value) (zs : List Int) (cut : Int) (w : World) (ht : Tab64 w) (hl : Reads w v (l.map byteV) ∧ (∀ ao n cap, v = .slice ao n cap → n ≤ cap) ∧ l.length ≤ maxLen)
    (hz : Reads w vz (zs.map (Value.int .i64)) ∧ (∀ x ∈ zs, (Lit.int .i64 x).wf = true) ∧ zs.length ≤ maxLen) :
    Calls Tryd.prog 5 #[v, vz, .int .i64 cut] w fun e w' => e = .returned (.bool true) ∧ Below w.heap.size w w' := by
  obtain ⟨hr, hroom, hll⟩ := hl
  obtain ⟨hrz, -, hlz⟩ := hz
  obtain ⟨ao, cap, rfl⟩ := hr.form
  obtain ⟨aoz, capz, rfl⟩ := hrz.form
  simp only [List.length_map] at *
  have hc := hroom ao l.length cap rfl
  unfold maxLen at hll hlz
  have hby : Bytes w (.slice ao l.length cap) l := bytes_of hr hc
  have HBY := hid hby
  have HRZ := hid hrz
  have HT := hid ht
  have CA := hid (anchor_any w ht)
  clear hr hroom hrz ht hby hc
  by_cases h1 : (2000 : Int) < (l.length : Int)
  · go_enter Tryd.func5, Tryd.ntmps5
    go_wp2_with fail
    refine CA.out.mono ?_
    rintro e w1 ⟨rfl, hb1⟩
    go_wp2_with fail
    go_ret
    exact ⟨rfl, hb1⟩
  by_cases h2 : (50 : Int) < (zs.length : Int)
  · go_enter Tryd.func5, Tryd.ntmps5
    go_wp2_with fail
    refine CA.out.mono ?_
    rintro e w1 ⟨rfl, hb1⟩
    go_wp2_with fail
    go_ret
    exact ⟨rfl, hb1⟩
  by_cases h3 : cut < 0
  · go_enter Tryd.func5, Tryd.ntmps5
    go_wp2_with fail
    refine CA.out.mono ?_
    rintro e w1 ⟨rfl, hb1⟩
    go_wp2_with fail
    go_ret
    exact ⟨rfl, hb1⟩
  obtain ⟨n, rfl⟩ : ∃ n : Nat, cut = (n : Int) := ⟨cut.toNat, by omega⟩
  have c1 := fun W h1 h2 h3 => Chunks_any (.slice ao l.length cap) (.slice aoz zs.length capz) l zs W h1 h2 (by omega) h3 (by omega)
  have hRl := chunksT_le l zs (by omega) (by omega)
  have hRp : 0 < (chunksT (cutS l zs)).length := Nat.lt_of_le_of_lt (Nat.zero_le _) (chunksT_num (cutS l zs))
  have hx := fun c k h => readF_cut l zs c k (by omega) h
  generalize chunksT (cutS l zs) = R at c1 hRl hx hRp
  have hkl : n % R.length < R.length := Nat.mod_lt _ hRp
  have htm : (n : Int).tmod (R.length : Int) = ((n % R.length : Nat) : Int) := by rw [Int.tmod_eq_emod_of_nonneg (by omega)]; rfl
  have hne : ¬ R.length = 0 := by omega
  have hne2 : ¬ R = [] := by rintro rfl; simp at hRp
  generalize n % R.length = k at hkl htm
  have hTl : (R.take k).length ≤ 1000000 := by rw [List.length_take]; omega
  have c2 := fun v c W h => Read_any 2 0 v (R.take k) c W h hTl
  have e1 := hx false k hkl
  have e2 := hx true k hkl
  have c3 := fun v W h => c2 v false W h
  have c4 := fun v W h => c2 v true W h
  rw [e1] at c3
  rw [e2] at c4
  have c5 := fun c W h => Read_any 1 (l.length : Int) (.slice ao l.length cap) l c W h (by omega)
  have e5 : ∀ c, readF 1 (l.length : Int) c l = .ok (l, l.length) := fun c => by
    rw [readF_sized l l.length c (by omega), if_neg (by omega), List.take_length]
  have c6 : ∀ c W, Bytes W (.slice ao l.length cap) l → Calls Tryd.prog 19 #[.agg #[.int .i64 1, .int .i64 (l.length : Int)], .slice ao l.length cap, .bool c] W fun e w' => ReadPost W.heap.size (.ok (l, l.length)) e w' ∧ Below W.heap.size W w' := fun c W h => by
    have := c5 c W h
    rw [e5] at this
    exact this
  have C1 := hid c1
  have C3 := hid c3
  have C4 := hid c4
  have C6 := hid c6
  have HKL := hid hkl
  clear c1 c2 c3 c4 c5 c6 e1 e2 e5 hx hTl hkl hRp
  go_enter Tryd.func5, Tryd.ntmps5
  go_wp2_with fail
  refine CA.out.mono ?_
  rintro e w1 ⟨rfl, hb1⟩
  go_wp2_with fail
  refine (C1.out _ (HT.out.below hb1) (bytes_below HBY.out hb1) (HRZ.out.below hb1)).mono ?_
  rintro e w2 ⟨⟨v2, rfl, ho2⟩, hb2⟩
  have hb3 := chain2 hb1 hb1.size hb2
  obtain ⟨aoh, ch, hhigh, hvh⟩ := bytes_high (P := Tryd.prog) 49 (by kernel_rfl) (fun _ => by kernel_rfl) (bytes_own ho2) k (by have := HKL.out; omega)
  obtain ⟨ao2, cap2, rfl⟩ := ownsRow_bytes_form ho2
  have HH := hid hhigh
  have HVH := hid hvh
  clear hb1 hb2 CA C1 ho2 HRZ hhigh hvh
  go_wp2_with (refine wpList_slice_high rfl 49 _ _ rfl rfl rfl (by kernel_rfl) (HH.out _) ?_)
  refine (C3.out _ _ HVH.out).mono ?_
  rintro e w3 ⟨⟨-, rfl⟩, hb4⟩
  have hb5 := chain2 hb3 hb3.size hb4
  have HV2 := hid (bytes_below HVH.out hb4)
  clear hb3 hb4 C3 HVH
  unfold lackN
  go_wp2_with (refine wpList_slice_high rfl 49 _ _ rfl rfl rfl (by kernel_rfl) (HH.out _) ?_)
  refine (C4.out _ _ HV2.out).mono ?_
  rintro e w4 ⟨⟨-, rfl⟩, hb6⟩
  have hb7 := chain2 hb5 hb5.size hb6
  clear hb5 hb6 C4 HV2 HH
  unfold lackN
  go_wp2_with fail
  refine (C6.out _ _ (bytes_below HBY.out hb7)).mono ?_
  rintro e w5 ⟨⟨v5, rfl, -⟩, hb8⟩
  have hb9 := chain2 hb7 hb7.size hb8
  clear hb7 hb8 C6
  go_wp2_with fail
  go_ret
  exact ⟨rfl, hb9⟩
end Go.Proofs.YtfoghjhdjmapnaaDoor

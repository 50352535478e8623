/-
  The walk of the statement BodyChunks.
-/
import Derived.Test.YtfoghjhdjmapnaaDoorLaw06A
namespace Go.Proofs.YtfoghjhdjmapnaaDoor
open Go.RowKit Go.Pantry

theorem bytes_own {w : World} {B : Nat} {e : TypeId} {v : Value} {l : List UInt8} (h : w.ownsRow B e 1 v l.length (l.map byteV)) : Bytes w v l := by
  have hr := h.reads
  rcases h.2 with ⟨rfl, hn⟩ | ⟨g, cap, cur, rfl, hb, hg, hnc, rest⟩
  · obtain rfl := List.length_eq_zero_iff.1 hn
    exact bytes_nil w
  · exact ⟨_, _, rfl, hnc, hr⟩
theorem chunksT_num : ∀ cs : List (List UInt8), cs.length < (chunksT cs).length
  | [] => by
    have e : chunksT [] = chunkT [] := rfl
    rw [e]
    unfold chunkT crlfB
    simp
  | c :: cs => by
    have := chunksT_num cs
    have hp := hexN_pos c.length
    have hc : (chunkT c).length = (hexN c.length).length + 2 + c.length + 2 := by unfold chunkT crlfB; simp; omega
    rw [chunksT_cons, List.length_append, List.length_cons]
    omega
theorem readF_chunks (l : List UInt8) (zs : List Int) (rest : List UInt8) (c : Bool) (h : l.length ≤ 2048) : readF 2 0 c (chunksT (cutS l zs) ++ rest) = .ok (l, (chunksT (cutS l zs)).length) := by
  have hn := chunksT_num (cutS l zs)
  unfold readF
  rw [if_neg (by omega), if_neg (by decide), if_neg (by decide), if_pos rfl, chunks_text (lackN c) (cutS l zs) _ [] rest (fun x hx => (cutS_pos zs l x hx).1) (by rw [List.length_append]; omega) (by rw [cutS_flat]; simpa using h), cutS_flat]
  unfold readOf
  simp
theorem readF_big (l : List UInt8) (zs : List Int) (rest : List UInt8) (c : Bool) (h : 2048 < l.length) (hl : l.length < 4294967296) : readF 2 0 c (chunksT (cutS l zs) ++ rest) = .error 23 := by
  have hn := chunksT_num (cutS l zs)
  unfold readF
  rw [if_neg (by omega), if_neg (by decide), if_neg (by decide), if_pos rfl, chunks_big (lackN c) (cutS l zs) _ [] rest (fun x hx => ⟨(cutS_pos zs l x hx).1, by have := (cutS_pos zs l x hx).2; omega⟩) (by rw [List.length_append]; omega) (by simp) (by rw [cutS_flat]; simpa using h)]
  rfl
theorem chunksT_le (l : List UInt8) (zs : List Int) (hl : l.length ≤ 10000) (hz : zs.length ≤ 1000) : (chunksT (cutS l zs)).length ≤ 30000 := by
  have h1 := cutS_text_len (cutS l zs) (fun c hc => by have := (cutS_pos zs l c hc).2; omega)
  have h2 := cutS_len zs l
  rw [cutS_flat] at h1
  omega
set_option maxRecDepth 100000 in
set_option maxHeartbeats 8000000 in
theorem bodyChunks_walk (v : Value) (l : List UInt8) (vz : Value) (zs : List Int) (vr : Value) (rest : List UInt8) (w : World) (ht : Tab64 w) (hl : Reads w v (l.map byteV) ∧ (∀ ao n cap, v = .slice ao n cap → n ≤ cap) ∧ l.length ≤ maxLen)
    (hz : Reads w vz (zs.map (Value.int .i64)) ∧ (∀ x ∈ zs, (Lit.int .i64 x).wf = true) ∧ zs.length ≤ maxLen) (hl2 : Reads w vr (rest.map byteV) ∧ (∀ ao n cap, vr = .slice ao n cap → n ≤ cap) ∧ rest.length ≤ maxLen) :
    Calls Tryd.prog 4 #[v, vz, vr] w fun e w' => e = .returned (.bool true) ∧ Below w.heap.size w w' := by
  obtain ⟨hr, hroom, hll⟩ := hl
  obtain ⟨hr2, hroom2, hll2⟩ := hl2
  obtain ⟨hrz, -, hlz⟩ := hz
  obtain ⟨ao, cap, rfl⟩ := hr.form
  obtain ⟨aor, capr, rfl⟩ := hr2.form
  obtain ⟨aoz, capz, rfl⟩ := hrz.form
  simp only [List.length_map] at *
  have hc := hroom ao l.length cap rfl
  have hc2 := hroom2 aor rest.length capr rfl
  unfold maxLen at hll hll2 hlz
  have hby : Bytes w (.slice ao l.length cap) l := bytes_of hr hc
  have hby2 : Bytes w (.slice aor rest.length capr) rest := bytes_of hr2 hc2
  have HBY := hid hby
  have HBR := hid hby2
  have HRZ := hid hrz
  have HT := hid ht
  have CA := hid (anchor_any w ht)
  clear hr hroom hr2 hroom2 hrz ht hby hby2 hc hc2
  by_cases h1 : (3000 : Int) < (l.length : Int)
  · go_enter Tryd.func4, Tryd.ntmps4
    go_wp2_with fail
    refine CA.out.mono ?_
    rintro e w1 ⟨rfl, hb1⟩
    go_wp2_with fail
    go_ret
    exact ⟨rfl, hb1⟩
  by_cases h2 : (100 : Int) < (zs.length : Int)
  · go_enter Tryd.func4, Tryd.ntmps4
    go_wp2_with fail
    refine CA.out.mono ?_
    rintro e w1 ⟨rfl, hb1⟩
    go_wp2_with fail
    go_ret
    exact ⟨rfl, hb1⟩
  by_cases h3 : (100 : Int) < (rest.length : Int)
  · go_enter Tryd.func4, Tryd.ntmps4
    go_wp2_with fail
    refine CA.out.mono ?_
    rintro e w1 ⟨rfl, hb1⟩
    go_wp2_with fail
    go_ret
    exact ⟨rfl, hb1⟩
  have c1 := fun W h1 h2 h3 => Chunks_any (.slice ao l.length cap) (.slice aoz zs.length capz) l zs W h1 h2 (by omega) h3 (by omega)
  have hRl := chunksT_le l zs (by omega) (by omega)
  have hx : ∀ y, readF 2 0 false (chunksT (cutS l zs) ++ rest) = y → ((2048 < l.length ∧ y = .error 23) ∨ (l.length ≤ 2048 ∧ y = .ok (l, (chunksT (cutS l zs)).length))) := fun y hy => by
    rcases Nat.lt_or_ge 2048 l.length with h | h
    · exact .inl ⟨h, by rw [← hy]; exact readF_big l zs rest false h (by omega)⟩
    · exact .inr ⟨h, by rw [← hy]; exact readF_chunks l zs rest false h⟩
  generalize chunksT (cutS l zs) = R at c1 hRl hx
  have c2 := fun v W h => Read_any 2 0 v (R ++ rest) false W h (by rw [List.length_append]; omega)
  have hx2 := hx _ rfl
  generalize readF 2 0 false (R ++ rest) = y at c2 hx2
  have C1 := hid c1
  have C2 := hid c2
  have HX := hid hx2
  clear c1 c2 hx hx2
  go_enter Tryd.func4, Tryd.ntmps4
  go_wp2_with fail
  refine CA.out.mono ?_
  rintro e w1 ⟨rfl, hb1⟩
  go_wp2_with fail
  refine (C1.out _ (HT.out.below hb1) (bytes_below HBY.out hb1) (HRZ.out.below hb1)).mono ?_
  rintro e w2 ⟨⟨v2, rfl, ho2⟩, hb2⟩
  obtain ⟨ao2, cap2, rfl⟩ := ownsRow_bytes_form ho2
  have hb3 := chain2 hb1 hb1.size hb2
  obtain ⟨W, hW⟩ : ∃ W, W = w2.alloc (.cells #[] 5) := ⟨_, rfl⟩
  have hbW : Below w2.heap.size w2 W := by rw [hW]; exact below_alloc _ _
  have hlit : W.ownsRow w2.heap.size 5 1 (.slice (some ⟨w2.heap.size, 0, none⟩) 0 0) 0 [] := by
    rw [hW]
    exact World.ownsRow_lit w2 #[] 0 (Nat.le_refl _) (by unfold maxLen; omega) rfl
  have hsW : w2.heap.size ≤ W.heap.size := hbW.size
  have hr2W := (ho2.below hbW).reads
  have hb4 := chain2 hb3 hb3.size hbW
  have HO2 := hid ho2
  have HB3 := hid hb3
  clear hb1 hb2 hb3 CA C1 ho2 HRZ
  subst hW
  have hRR : R.length + rest.length < 4294967296 := by omega
  go_wp2_with (first
    | (at_builtin; refine wpList_append_all _ rfl _ _ 49 rfl w2.heap.size 5 Tryd.underlying49 infoU8 rfl (by decide) rfl hlit hr2W (oneCell_bytes _) rfl (by simp; omega) hsW ?_; intro v3 w3 ho3 hg3 hb3; have hs3 : w2.heap.size ≤ w3.heap.size := Nat.le_trans hsW hb3.size; have hb5 : Below w2.heap.size w2 w3 := hbW.trans (hb3.mono (Nat.le_refl _)); have hr3 := bytesRead (bytes_below HBR.out (chain2 HB3.out HB3.out.size hb5)))
    | (at_builtin; refine wpList_append_all _ rfl _ _ 49 rfl w2.heap.size 5 Tryd.underlying49 infoU8 rfl (by decide) rfl ho3 hr3 (oneCell_bytes _) rfl (by simp; omega) hs3 ?_; intro v4 w4 ho4 hg4 hb6))
  have hb7 : Below w2.heap.size w2 w4 := hb5.trans hb6
  have hb8 := chain2 HB3.out HB3.out.size hb7
  have hby4 : Bytes w4 v4 (R ++ rest) := by
    have h1 : (R ++ rest).length = 0 + (R.map byteV).length + (rest.map byteV).length := by simp
    have h2 : (R ++ rest).map byteV = [] ++ R.map byteV ++ rest.map byteV := by simp
    refine bytes_own (B := w2.heap.size) (e := 5) ?_
    rw [h1, h2]
    exact ho4
  have C3 := hid (C2.out v4 w4 hby4)
  clear hg3 hg4 ho4 ho3 hr3 hb5 hb6 hb7 hr2W hlit hbW hsW C2 hby4 hs3
  refine C3.out.mono ?_
  rintro e w5 ⟨hp, hb9⟩
  have hb10 := chain2 hb8 hb8.size hb9
  clear hb8 hb9 C3
  rcases HX.out with ⟨hbig, rfl⟩ | ⟨hsm, rfl⟩
  · obtain ⟨-, rfl⟩ := hp
    have hbig' : (2048 : Int) < (l.length : Int) := by omega
    go_wp2_with fail
    go_ret
    exact ⟨rfl, hb10⟩
  · obtain ⟨v5, rfl, ho5⟩ := hp
    have hsm' : ¬ (2048 : Int) < (l.length : Int) := by omega
    have cv1 := ownsRow_string ho5 49 9 Tryd.underlying49 Tryd.underlying5 Tryd.underlying9
    have cv2 := reads_string (bytesRead (bytes_below HBY.out hb10)) 49 9 5 Tryd.underlying49 Tryd.underlying5 Tryd.underlying9
    clear ho5
    go_wp2_with fail
    go_ret
    exact ⟨rfl, hb10⟩
end Go.Proofs.YtfoghjhdjmapnaaDoor

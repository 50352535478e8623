/-
  Contracts: strconv.ParseUint of two digits, package place's ofDigits.
-/
import Derived.Test.YthokpbpnecdgpaaGreatDoorPlaceP
namespace Go.Pantry
open Go.RowKit
/-- what stands for a % and the digits that l begins with -/
def digL (l : List UInt8) : Option (List UInt8) := match l with
  | a :: b :: _ => (match hexV a, hexV b with | some x, some y => some (escB (16 * x + y)) | _, _ => none)
  | _ => none
theorem hexP_two (a b : UInt8) : hexP 0 [a, b] = match hexV a, hexV b with | some x, some y => some (16 * x + y) | _, _ => none := by
  rw [hexP]
  cases hexV a with
  | none => rfl
  | some x =>
    simp only
    rw [hexP]
    cases hexV b with
    | none => rfl
    | some y => simp [hexP]
theorem digL_two (a b : UInt8) (r : List UInt8) : digL (a :: b :: r) = (hexP 0 [a, b]).map escB := by
  rw [hexP_two]
  simp only [digL]
  generalize hexV a = u
  generalize hexV b = v
  cases u <;> cases v <;> rfl
theorem upB_hex {c : UInt8} {v : Nat} (h : hexV c = some v) : Lib.upperB c = hexG v := by
  have h1 := byte_all (p := fun c => match hexV c with | some v => Lib.upperB c == hexG v | none => true) (by decide +kernel) c
  simp only [h] at h1
  exact beq_iff_eq.1 h1
theorem hex_ascii {c : UInt8} {v : Nat} (h : hexV c = some v) : c.toNat < 128 := by
  have h1 := byte_all (p := fun c => match hexV c with | some _ => decide (c.toNat < 128) | none => true) (by decide +kernel) c
  simp only [h] at h1
  exact of_decide_eq_true h1
theorem isUn_of (c : UInt8) : (isAl c || ([45, 46, 95, 126] : List UInt8).contains c) = isUn c := by
  have h := byte_all (p := fun c => (isAl c || ([45, 46, 95, 126] : List UInt8).contains c) == isUn c) (by decide +kernel) c
  exact beq_iff_eq.1 h
theorem isHC_of (c : UInt8) : (isAl c || ([45, 46] : List UInt8).contains c) = isHC c := by
  have h := byte_all (p := fun c => (isAl c || ([45, 46] : List UInt8).contains c) == isHC c) (by decide +kernel) c
  exact beq_iff_eq.1 h
end Go.Pantry
namespace Go.Proofs.YthokpbpnecdgpaaGreatDoor
open Go.RowKit Go.Pantry

/-- strconv's ErrSyntax is laid -/
def ErrOk (w : World) : Prop := ∃ ev, w.cell? ⟨2, 0, none⟩ = some ev ∧ (ev = .nilIface ∨ ∃ te pe, ev = .iface te pe)
theorem chainP {w a b : World} (h1 : Below w.heap.size w a) (h2 : Below a.heap.size a b) : Below w.heap.size w b := h1.trans (h2.mono h1.size)
theorem digit_id (c : UInt8) : UInt8.ofNat ((c.toNat : Int)).toNat = c := by simp
theorem ErrOk.below {w w' : World} (h : ErrOk w) (hb : Below w.heap.size w w') : ErrOk w' := by
  obtain ⟨ev, hv, he⟩ := h
  exact ⟨ev, kept hv hb, he⟩
theorem pParse_some (s : ByteArray) (n : Nat) (w : World) (hs : s.size = 2) (h : hexP 0 s.data.toList = some n) :
    Calls Tryz.prog 44 #[.string s, .int .i64 16, .int .i64 8] w fun e w' => e = .returned (.tuple #[.int .u64 (n : Int), .nilIface]) ∧ Below w.heap.size w w' := by
  have c := iParse_any s w hs
  rw [h] at c
  have C : Calls Tryz.prog 58 #[.string s, .int .i64 16, .int .i64 8] w fun e w' => e = .returned (.tuple #[.int .u64 (n : Int), .nilIface]) ∧ Below w.heap.size w w' := c
  clear c h hs
  go_enter Tryz.func44, Tryz.ntmps44
  go_wp2_with (go_at_call 58; refine C.mono ?_; rintro e w' ⟨rfl, hb⟩)
  go_ret2
  exact ⟨rfl, hb⟩
theorem pParse_none (s : ByteArray) (w : World) (hs : s.size = 2) (h : hexP 0 s.data.toList = none) (hE : ErrOk w) :
    Calls Tryz.prog 44 #[.string s, .int .i64 16, .int .i64 8] w fun e w' => (∃ t p, e = .returned (.tuple #[.int .u64 0, .iface t p])) ∧ Below w.heap.size w w' := by
  have c := iParse_any s w hs
  rw [h] at c
  have C : Calls Tryz.prog 58 #[.string s, .int .i64 16, .int .i64 8] w fun e w' => e = .returned (.tuple #[.int .u64 0, .iface 96 (.int .i64 2)]) ∧ Below w.heap.size w w' := c
  clear c h
  have hs2 : s.size ≤ 281474976710656 := by omega
  clear hs
  have HE := hid hE
  clear hE
  go_enter Tryz.func44, Tryz.ntmps44
  go_wp2_with (go_at_call 58; refine C.mono ?_; rintro e w1 ⟨rfl, hb⟩)
  obtain ⟨ev, hv, he⟩ := HE.out.below hb
  refine (Tryz.strconv_toError_syntax _ _ _ _ ev _ hs2 hv he).mono ?_
  rintro e w2 ⟨N, rfl, -, -, hb2⟩
  go_wp2_with fail
  go_ret2
  exact ⟨⟨_, _, rfl⟩, hb.trans (hb2.mono hb.size)⟩

set_option maxRecDepth 100000 in
theorem ofDigits_any (s : ByteArray) (w : World) (hs : s.size < 4294967281) (hE : ErrOk w) :
    Calls Tryz.prog 29 #[.string s] w fun e w' => e = .returned (.tuple #[strV ((digL s.data.toList).getD []), .bool (digL s.data.toList).isSome]) ∧ Below w.heap.size w w' := by
  by_cases h2 : s.size < 2
  · have hn : digL s.data.toList = none := by
      match h : s.data.toList with
      | [] => rfl
      | [a] => rfl
      | a :: b :: r => have := size_list s; rw [h] at this; simp at this; omega
    rw [hn]
    clear hn hE
    go_enter Tryz.func29, Tryz.ntmps29
    go_wp2
    go_ret2
    exact ⟨rfl, Below.refl _ _⟩
  · obtain ⟨a, b, r, hl⟩ : ∃ a b r, s.data.toList = a :: b :: r := by
      match h : s.data.toList with
      | [] => have := size_list s; rw [h] at this; simp at this; omega
      | [a] => have := size_list s; rw [h] at this; simp at this; omega
      | a :: b :: r => exact ⟨a, b, r, rfl⟩
    obtain ⟨D, hD⟩ : ∃ D, s.extract 0 2 = D := ⟨_, rfl⟩
    have hDl : D.data.toList = [a, b] := by
      rw [← hD, Lib.extract_eq]; simp [hl]
    have hDs : D.size = 2 := by rw [← size_list, hDl]; rfl
    have hP := hexP_two a b
    have hdl : digL s.data.toList = (hexP 0 [a, b]).map escB := by
      rw [hl, digL_two]
    rw [hdl]
    clear hdl hl
    cases hh : hexP 0 [a, b] with
    | none =>
      have C := fun W hW => pParse_none D W hDs (by rw [hDl]; exact hh) hW
      have HC := hid C
      have HE := hid hE
      clear C hE hP hDl hDs hh
      go_enter Tryz.func29, Tryz.ntmps29
      go_wp2_with (go_at_call 44; refine (HC.out _ HE.out).mono ?_; rintro e w1 ⟨⟨t, p, rfl⟩, hb⟩)
      go_ret2
      exact ⟨rfl, hb⟩
    | some n =>
      have C := fun W => pParse_some D n W hDs (by rw [hDl]; exact hh)
      obtain ⟨x, y, hx, hy, hxy⟩ : ∃ x y, hexV a = some x ∧ hexV b = some y ∧ n = 16 * x + y := by
        rw [hP] at hh
        cases hx : hexV a with
        | none => rw [hx] at hh; cases hh
        | some x =>
          cases hy : hexV b with
          | none => rw [hx, hy] at hh; cases hh
          | some y => rw [hx, hy] at hh; cases hh; exact ⟨x, y, rfl, rfl, rfl⟩
      have hn : n < 256 := by rw [hxy]; exact hex_sum hx hy
      obtain ⟨c, hc⟩ : ∃ c : UInt8, n.toUInt8 = c := ⟨_, rfl⟩
      have hcn : c.toNat = n := by rw [← hc, Nat.toUInt8_eq, UInt8.toNat_ofNat']; omega
      have w1 : IntKind.u8.wrap (n : Int) = (c.toNat : Int) := by
        rw [hcn]; simp [IntKind.wrap, IntKind.bits, IntKind.signed]; omega
      have hup : Lib.toUpperA D.data.toList = [hexG x, hexG y] := by
        rw [hDl]; show [Lib.upperB a, Lib.upperB b] = _
        rw [upB_hex hx, upB_hex hy]
      have cu := fun W => Tryz.strings_ToUpper_ascii D W (by omega) (fun j d hj => by
        rw [hDl] at hj
        match j, hj with
        | 0, hj => cases hj; exact hex_ascii hx
        | 1, hj => cases hj; exact hex_ascii hy)
      rw [hup] at cu
      have hadd := fun W => run_string_add_lists (P := Tryz.prog) W [37] [hexG x, hexG y] (by simp) (by simp)
      have co := fun W => oneSign_any c (.slice (some ⟨W.heap.size, 0, none⟩) 4 4) [45, 46, 95, 126] (W.alloc (.cells (([45, 46, 95, 126] : List UInt8).map byteV).toArray 5)) (reads_new W _ _ 4) (by simp)
      have he : escB n = if isUn c then [c] else [37, hexG x, hexG y] := by
        unfold escB
        rw [hc]
        have h1 : n / 16 = x := by have := hexV_le hy; omega
        have h2 : n % 16 = y := by have := hexV_le hy; omega
        rw [h1, h2]
      rw [isUn_of] at co
      show Calls Tryz.prog 29 #[.string s] w fun e w' => e = .returned (.tuple #[strV (escB n), .bool true]) ∧ Below w.heap.size w w'
      rw [he]
      obtain ⟨q, hq⟩ : ∃ q, isUn c = q := ⟨_, rfl⟩
      rw [hq] at co ⊢
      have hcv := fun (W : World) (b : Nat) (c : Int) => run_one_byte (P := Tryz.prog) 48 9 5 Tryz.underlying48 Tryz.underlying5 Tryz.underlying9 W b c
      have HC := hid C
      have CO := hid co
      have CU := hid cu
      clear C hE hP hDl hDs hh hx hy hxy hn hc hcn hup cu co he hq
      cases q
      · go_enter Tryz.func29, Tryz.ntmps29
        go_wp2_with (first
          | (go_at_call 44; refine (HC.out _).mono ?_; rintro e w1 ⟨rfl, hb⟩)
          | (go_at_call 35; refine (CO.out _).mono ?_; rintro e w2 ⟨rfl, rfl⟩)
          | (go_at_call 45; refine (CU.out _).mono ?_; rintro e w3 ⟨rfl, hb3⟩))
        go_ret2
        exact ⟨rfl, chainP (chainP hb (below_alloc _ _)) hb3⟩
      · go_enter Tryz.func29, Tryz.ntmps29
        go_wp2_with (first
          | (go_at_call 44; refine (HC.out _).mono ?_; rintro e w1 ⟨rfl, hb⟩)
          | (go_at_call 35; refine (CO.out _).mono ?_; rintro e w2 ⟨rfl, rfl⟩)
          | (go_at_call 45; refine (CU.out _).mono ?_; rintro e w3 ⟨rfl, hb3⟩))
        go_ret2
        refine ⟨rfl, ?_⟩
        first | exact chainP (chainP hb (below_alloc _ _)) (below_alloc _ _) | exact chainP (chainP (chainP hb (below_alloc _ _)) (below_alloc _ _)) (Below.refl _ _)
end Go.Proofs.YthokpbpnecdgpaaGreatDoor

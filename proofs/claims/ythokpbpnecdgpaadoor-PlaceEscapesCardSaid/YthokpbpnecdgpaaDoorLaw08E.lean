/-
  The walk of the statement PlaceEscapes.
-/
import Derived.Test.YthokpbpnecdgpaaDoorLaw08L
import Derived.Test.YthokpbpnecdgpaaDoorPurePlace3
import Derived.Deep.QuietTactic
import Derived.BigQuiet
namespace Go.Pantry
open Go.RowKit
theorem un_cls : ∀ n : Nat, n < 256 → isUn n.toUInt8 = ((decide (97 ≤ n) && decide (n ≤ 122)) || (decide (65 ≤ n) && decide (n ≤ 90)) || (decide (48 ≤ n) && decide (n ≤ 57)) || n == 45 || n == 46 || n == 95 || n == 126) := by decide +kernel
theorem cut_great : ∀ n : Nat, n < 16 → (⟨#[48, 49, 50, 51, 52, 53, 54, 55, 56, 57, 65, 66, 67, 68, 69, 70]⟩ : ByteArray).extract n (n + 1) = ⟨#[hexW false n]⟩ := by decide +kernel
theorem cut_small : ∀ n : Nat, n < 16 → (⟨#[48, 49, 50, 51, 52, 53, 54, 55, 56, 57, 97, 98, 99, 100, 101, 102]⟩ : ByteArray).extract n (n + 1) = ⟨#[hexW true n]⟩ := by decide +kernel
theorem esc_great {n : Nat} (hn : n < 256) : (⟨#[37]⟩ ++ (⟨#[48, 49, 50, 51, 52, 53, 54, 55, 56, 57, 65, 66, 67, 68, 69, 70]⟩ : ByteArray).extract (n / 16) (n / 16 + 1) ++ (⟨#[48, 49, 50, 51, 52, 53, 54, 55, 56, 57, 65, 66, 67, 68, 69, 70]⟩ : ByteArray).extract (n % 16) (n % 16 + 1) : ByteArray) = ⟨(escT false n).toArray⟩ := by
  rw [cut_great _ (by omega), cut_great _ (by omega)]; rfl
theorem esc_small {n : Nat} (hn : n < 256) : (⟨#[37]⟩ ++ (⟨#[48, 49, 50, 51, 52, 53, 54, 55, 56, 57, 97, 98, 99, 100, 101, 102]⟩ : ByteArray).extract (n / 16) (n / 16 + 1) ++ (⟨#[48, 49, 50, 51, 52, 53, 54, 55, 56, 57, 97, 98, 99, 100, 101, 102]⟩ : ByteArray).extract (n % 16) (n % 16 + 1) : ByteArray) = ⟨(escT true n).toArray⟩ := by
  rw [cut_small _ (by omega), cut_small _ (by omega)]; rfl
theorem one_int (n : Nat) : (⟨#[UInt8.ofNat ((n : Int)).toNat]⟩ : ByteArray) = ⟨[n.toUInt8].toArray⟩ := by simp
end Go.Pantry
namespace Go.Proofs.YthokpbpnecdgpaaDoor
open Go.RowKit Go.Pantry

/-- the ways in which a byte stands for itself, or not -/
theorem un_ways {n : Nat} (hn : n < 256) : (isUn n.toUInt8 = true ∧ decide ((97 : Int) ≤ (n : Int)) = false ∧ decide ((65 : Int) ≤ (n : Int)) = false ∧ decide ((48 : Int) ≤ (n : Int)) = false ∧ ((n : Int) == 45) = true) ∨ (isUn n.toUInt8 = true ∧ decide ((97 : Int) ≤ (n : Int)) = false ∧ decide ((65 : Int) ≤ (n : Int)) = false ∧ decide ((48 : Int) ≤ (n : Int)) = false ∧ ((n : Int) == 45) = false ∧ ((n : Int) == 46) = true) ∨ (isUn n.toUInt8 = false ∧ decide ((97 : Int) ≤ (n : Int)) = false ∧ decide ((65 : Int) ≤ (n : Int)) = false ∧ decide ((48 : Int) ≤ (n : Int)) = false ∧ ((n : Int) == 45) = false ∧ ((n : Int) == 46) = false ∧ ((n : Int) == 95) = false ∧ ((n : Int) == 126) = false) ∨ (isUn n.toUInt8 = true ∧ decide ((97 : Int) ≤ (n : Int)) = false ∧ decide ((65 : Int) ≤ (n : Int)) = false ∧ decide ((48 : Int) ≤ (n : Int)) = true ∧ decide ((n : Int) ≤ 57) = true) ∨ (isUn n.toUInt8 = false ∧ decide ((97 : Int) ≤ (n : Int)) = false ∧ decide ((65 : Int) ≤ (n : Int)) = false ∧ decide ((48 : Int) ≤ (n : Int)) = true ∧ decide ((n : Int) ≤ 57) = false ∧ ((n : Int) == 45) = false ∧ ((n : Int) == 46) = false ∧ ((n : Int) == 95) = false ∧ ((n : Int) == 126) = false) ∨ (isUn n.toUInt8 = true ∧ decide ((97 : Int) ≤ (n : Int)) = false ∧ decide ((65 : Int) ≤ (n : Int)) = true ∧ decide ((n : Int) ≤ 90) = true) ∨ (isUn n.toUInt8 = true ∧ decide ((97 : Int) ≤ (n : Int)) = false ∧ decide ((65 : Int) ≤ (n : Int)) = true ∧ decide ((n : Int) ≤ 90) = false ∧ decide ((48 : Int) ≤ (n : Int)) = true ∧ decide ((n : Int) ≤ 57) = false ∧ ((n : Int) == 45) = false ∧ ((n : Int) == 46) = false ∧ ((n : Int) == 95) = true) ∨ (isUn n.toUInt8 = false ∧ decide ((97 : Int) ≤ (n : Int)) = false ∧ decide ((65 : Int) ≤ (n : Int)) = true ∧ decide ((n : Int) ≤ 90) = false ∧ decide ((48 : Int) ≤ (n : Int)) = true ∧ decide ((n : Int) ≤ 57) = false ∧ ((n : Int) == 45) = false ∧ ((n : Int) == 46) = false ∧ ((n : Int) == 95) = false ∧ ((n : Int) == 126) = false) ∨ (isUn n.toUInt8 = true ∧ decide ((97 : Int) ≤ (n : Int)) = true ∧ decide ((n : Int) ≤ 122) = true) ∨ (isUn n.toUInt8 = true ∧ decide ((97 : Int) ≤ (n : Int)) = true ∧ decide ((n : Int) ≤ 122) = false ∧ decide ((65 : Int) ≤ (n : Int)) = true ∧ decide ((n : Int) ≤ 90) = false ∧ decide ((48 : Int) ≤ (n : Int)) = true ∧ decide ((n : Int) ≤ 57) = false ∧ ((n : Int) == 45) = false ∧ ((n : Int) == 46) = false ∧ ((n : Int) == 95) = false ∧ ((n : Int) == 126) = true) ∨ (isUn n.toUInt8 = false ∧ decide ((97 : Int) ≤ (n : Int)) = true ∧ decide ((n : Int) ≤ 122) = false ∧ decide ((65 : Int) ≤ (n : Int)) = true ∧ decide ((n : Int) ≤ 90) = false ∧ decide ((48 : Int) ≤ (n : Int)) = true ∧ decide ((n : Int) ≤ 57) = false ∧ ((n : Int) == 45) = false ∧ ((n : Int) == 46) = false ∧ ((n : Int) == 95) = false ∧ ((n : Int) == 126) = false) := by
  have hu := un_cls n hn
  rcases (by omega : (n = 45) ∨ (n = 46) ∨ (n < 48 ∧ n ≠ 45 ∧ n ≠ 46) ∨ (48 ≤ n ∧ n ≤ 57) ∨ (58 ≤ n ∧ n ≤ 64) ∨ (65 ≤ n ∧ n ≤ 90) ∨ (n = 95) ∨ (91 ≤ n ∧ n ≤ 96 ∧ n ≠ 95) ∨ (97 ≤ n ∧ n ≤ 122) ∨ (n = 126) ∨ (123 ≤ n ∧ n ≠ 126)) with h0 | h1 | h2 | h3 | h4 | h5 | h6 | h7 | h8 | h9 | h10
  · have hr : isUn n.toUInt8 = true := by rw [hu]; simp; omega
    exact .inl ⟨hr, by simp; omega, by simp; omega, by simp; omega, by simp; omega⟩
  · have hr : isUn n.toUInt8 = true := by rw [hu]; simp; omega
    exact .inr (.inl ⟨hr, by simp; omega, by simp; omega, by simp; omega, by simp; omega, by simp; omega⟩)
  · have hr : isUn n.toUInt8 = false := by rw [hu]; simp; omega
    exact .inr (.inr (.inl ⟨hr, by simp; omega, by simp; omega, by simp; omega, by simp; omega, by simp; omega, by simp; omega, by simp; omega⟩))
  · have hr : isUn n.toUInt8 = true := by rw [hu]; simp; omega
    exact .inr (.inr (.inr (.inl ⟨hr, by simp; omega, by simp; omega, by simp; omega, by simp; omega⟩)))
  · have hr : isUn n.toUInt8 = false := by rw [hu]; simp; omega
    exact .inr (.inr (.inr (.inr (.inl ⟨hr, by simp; omega, by simp; omega, by simp; omega, by simp; omega, by simp; omega, by simp; omega, by simp; omega, by simp; omega⟩))))
  · have hr : isUn n.toUInt8 = true := by rw [hu]; simp; omega
    exact .inr (.inr (.inr (.inr (.inr (.inl ⟨hr, by simp; omega, by simp; omega, by simp; omega⟩)))))
  · have hr : isUn n.toUInt8 = true := by rw [hu]; simp; omega
    exact .inr (.inr (.inr (.inr (.inr (.inr (.inl ⟨hr, by simp; omega, by simp; omega, by simp; omega, by simp; omega, by simp; omega, by simp; omega, by simp; omega, by simp; omega⟩))))))
  · have hr : isUn n.toUInt8 = false := by rw [hu]; simp; omega
    exact .inr (.inr (.inr (.inr (.inr (.inr (.inr (.inl ⟨hr, by simp; omega, by simp; omega, by simp; omega, by simp; omega, by simp; omega, by simp; omega, by simp; omega, by simp; omega, by simp; omega⟩)))))))
  · have hr : isUn n.toUInt8 = true := by rw [hu]; simp; omega
    exact .inr (.inr (.inr (.inr (.inr (.inr (.inr (.inr (.inl ⟨hr, by simp; omega, by simp; omega⟩))))))))
  · have hr : isUn n.toUInt8 = true := by rw [hu]; simp; omega
    exact .inr (.inr (.inr (.inr (.inr (.inr (.inr (.inr (.inr (.inl ⟨hr, by simp; omega, by simp; omega, by simp; omega, by simp; omega, by simp; omega, by simp; omega, by simp; omega, by simp; omega, by simp; omega, by simp; omega⟩)))))))))
  · have hr : isUn n.toUInt8 = false := by rw [hu]; simp; omega
    exact .inr (.inr (.inr (.inr (.inr (.inr (.inr (.inr (.inr (.inr (⟨hr, by simp; omega, by simp; omega, by simp; omega, by simp; omega, by simp; omega, by simp; omega, by simp; omega, by simp; omega, by simp; omega, by simp; omega⟩))))))))))
set_option maxRecDepth 100000 in
set_option maxHeartbeats 8000000 in
theorem placeEscapes_walk (c : Int) (b : Bool) (w : World) (hm : MaxOk w) (hl : LaidP w) (hw : (Lit.int .u8 c).wf = true) :
    Calls Tryd.prog 5 #[.int .u8 c, .bool b] w fun e w' => e = .returned (.bool true) ∧ Below w.heap.size w w' := by
  have h0 : 0 ≤ c ∧ c < 256 := by
    simp [Lit.wf, IntKind.min, IntKind.max, IntKind.signed, IntKind.bits] at hw
    omega
  have ok : PlaceOk w := ⟨hm, hl.1, hl.2⟩
  have ca := anchor_any w ok
  have CA := hid ca
  have OK := hid ok
  clear ca ok hm hl
  obtain ⟨n, rfl⟩ : ∃ n : Nat, c = (n : Int) := ⟨c.toNat, by omega⟩
  have hn : n < 256 := by omega
  clear h0 hw
  have er := fun b => esc_read b hn
  have ew := @un_ways n hn
  have eg := esc_great hn
  have es := esc_small hn
  have hl1 : (escB n).length ≤ 3 := by unfold escB; split <;> simp
  have hcv := fun (W : World) => run_one_byte (P := Tryd.prog) 31 9 5 Tryd.underlying31 Tryd.underlying5 Tryd.underlying9 (W.alloc (.cells #[.int .u8 (n : Int)] 5)) W.heap.size (n : Int) (World.cell?_alloc_at _ _ _ _ rfl)
  rw [one_int] at hcv
  have hu1 : isUn n.toUInt8 = true → [n.toUInt8] = escB n := fun h => (esc_un h).symm
  have hu2 : isUn n.toUInt8 = false → escT false n = escB n := fun h => (esc_not h).symm
  obtain ⟨E, hE⟩ : ∃ E, escB n = E := ⟨_, rfl⟩
  obtain ⟨U, hU⟩ : ∃ U, [n.toUInt8] = U := ⟨_, rfl⟩
  obtain ⟨V, hV⟩ : ∃ V, escT false n = V := ⟨_, rfl⟩
  rw [hE] at hl1 hu1 hu2
  rw [hU] at hcv hu1
  rw [hV] at eg hu2
  simp only [hE] at er
  obtain ⟨PP, hPP⟩ : ∃ PP, [47, 120] ++ E ++ [121] = PP := ⟨_, rfl⟩
  have p1 := fun W => run_string_add_lists (P := Tryd.prog) W [47, 120] E (by simp) (by omega)
  have p2 := fun W => run_string_add_lists (P := Tryd.prog) W ([47, 120] ++ E) [121] (by simp; omega) (by simp)
  rw [hPP] at p2
  obtain ⟨PQ, hPQ⟩ : ∃ PQ, [47, 120] ++ E = PQ := ⟨_, rfl⟩
  rw [hPQ] at p1 p2
  have p1' : ∀ W, (Op.stringOp BinOp.add ⟨#[47, 120]⟩ ⟨E.toArray⟩).run Tryd.prog W = .ok (.string ⟨PQ.toArray⟩) W := p1
  have p2' : ∀ W, (Op.stringOp BinOp.add ⟨PQ.toArray⟩ ⟨#[121]⟩).run Tryd.prog W = .ok (.string ⟨PP.toArray⟩) W := p2
  simp only [hPP] at er
  have HU1 := hid hu1
  have HU2 := hid hu2
  have EW := hid ew
  have HN := hid hn
  clear hu1 hu2 ew p1 p2 hPQ hU hPP hE
  cases b
  · have hr := er false
    have hle : (escT false n).length = 3 := rfl
    have hVV : escT false n = V := by assumption
    rw [hVV] at hr hle
    have s1 := fun W => run_string_add_lists (P := Tryd.prog) W [47, 120] V (by simp) (by omega)
    have s2 := fun W => run_string_add_lists (P := Tryd.prog) W ([47, 120] ++ V) [121, 63] (by simp; omega) (by simp)
    have s3 := fun W => run_string_add_lists (P := Tryd.prog) W ([47, 120] ++ V ++ [121, 63]) V (by simp; omega) (by omega)
    obtain ⟨X3, hX3⟩ : ∃ X, [47, 120] ++ V ++ [121, 63] ++ V = X := ⟨_, rfl⟩
    have hlX : X3.length ≤ 40000 := by rw [← hX3]; simp; omega
    rw [hX3] at s3 hr
    obtain ⟨X2, hX2⟩ : ∃ X, [47, 120] ++ V ++ [121, 63] = X := ⟨_, rfl⟩
    rw [hX2] at s2 s3
    obtain ⟨X1, hX1⟩ : ∃ X, [47, 120] ++ V = X := ⟨_, rfl⟩
    rw [hX1] at s1 s2
    have s1' : ∀ W, (Op.stringOp BinOp.add ⟨#[47, 120]⟩ ⟨V.toArray⟩).run Tryd.prog W = .ok (.string ⟨X1.toArray⟩) W := s1
    have s2' : ∀ W, (Op.stringOp BinOp.add ⟨X1.toArray⟩ ⟨#[121, 63]⟩).run Tryd.prog W = .ok (.string ⟨X2.toArray⟩) W := s2
    have c1 := fun W hW => Read_some hr W hW hlX (by simp)
    simp only at c1
    have C1 := hid c1
    clear c1 s1 s2 hX1 hX2 hX3 hr er hlX hle hVV
    have hn := HN.out
    go_enter Tryd.func5, Tryd.ntmps5
    go_wp2_with (go_at_call 9; refine CA.out.mono ?_; rintro e w1 ⟨rfl, HB⟩)
    go_quiet (fail)
    replace HB := below_drewN HB nq
    generalize w1.drewN nq = w2 at HB ⊢
    clear w1
    go_wp2_with (first
      | (go_at_call 10; with_reducible refine (C1.out _ (OK.out.below HB)).mono ?_; rintro e w3 ⟨rfl, hb3⟩; replace HB := HB.trans (hb3.mono HB.size); have R1a := rowIs_new w3 #[.string ⟨#[]⟩, .string ⟨#[]⟩, .string ⟨#[]⟩, .bool false] 24)
      | (refine wpList_store_row rfl 24 _ _ rfl w3.heap.size _ rfl rfl 24 #[.string ⟨#[]⟩, .string ⟨#[]⟩, .string ⟨#[]⟩, .bool false] R1a infoPlS rfl (onePl _ _ _ _) ?_; have R1 := R1a.setRow #[strV [104], strV PP, strV E, .bool true]; replace HB := below_setRow (HB.trans ((below_alloc w3 (.cells #[.string ⟨#[]⟩, .string ⟨#[]⟩, .string ⟨#[]⟩, .bool false] 24)).mono HB.size)) HB.size #[strV [104], strV PP, strV E, .bool true]; generalize (w3.alloc (.cells #[.string ⟨#[]⟩, .string ⟨#[]⟩, .string ⟨#[]⟩, .bool false] 24)).setRow w3.heap.size #[strV [104], strV PP, strV E, .bool true] = W5 at R1 HB ⊢; generalize w3.heap.size = g1 at R1 ⊢; clear R1a hb3))
    go_quiet (fail)
    have R2 := R1.below (below_drewN (Below.refl _ _) nq)
    replace HB := below_drewN HB nq
    generalize W5.drewN nq = W6 at R2 HB ⊢
    clear R1 s1' s2' s3
    rcases EW.out with ⟨hu, e0, e1, e2, e3⟩ | ⟨hu, e0, e1, e2, e3, e4⟩ | ⟨hu, e0, e1, e2, e3, e4, e5, e6⟩ | ⟨hu, e0, e1, e2, e3⟩ | ⟨hu, e0, e1, e2, e3, e4, e5, e6, e7⟩ | ⟨hu, e0, e1, e2⟩ | ⟨hu, e0, e1, e2, e3, e4, e5, e6, e7⟩ | ⟨hu, e0, e1, e2, e3, e4, e5, e6, e7, e8⟩ | ⟨hu, e0, e1⟩ | ⟨hu, e0, e1, e2, e3, e4, e5, e6, e7, e8, e9⟩ | ⟨hu, e0, e1, e2, e3, e4, e5, e6, e7, e8, e9⟩
    · have R3 := R2.below (below_alloc W6 (.cells #[.int .u8 (n : Int)] 5))
      have k1 := R3.cell 1
      have k2 := R3.cell 2
      have k3 := R3.cell 3
      clear R2 R3
      have hue := HU1.out hu
      clear hu EW HU1 HU2
      subst hue
      go_wp2_with fail
      go_ret
      exact ⟨rfl, HB.trans ((below_alloc _ _).mono HB.size)⟩
    · have R3 := R2.below (below_alloc W6 (.cells #[.int .u8 (n : Int)] 5))
      have k1 := R3.cell 1
      have k2 := R3.cell 2
      have k3 := R3.cell 3
      clear R2 R3
      have hue := HU1.out hu
      clear hu EW HU1 HU2
      subst hue
      go_wp2_with fail
      go_ret
      exact ⟨rfl, HB.trans ((below_alloc _ _).mono HB.size)⟩
    · have k1 := R2.cell 1
      have k2 := R2.cell 2
      have k3 := R2.cell 3
      clear R2
      have hue := HU2.out hu
      clear hu EW HU1 HU2
      subst hue
      go_wp2_with fail
      go_ret
      exact ⟨rfl, HB⟩
    · have R3 := R2.below (below_alloc W6 (.cells #[.int .u8 (n : Int)] 5))
      have k1 := R3.cell 1
      have k2 := R3.cell 2
      have k3 := R3.cell 3
      clear R2 R3
      have hue := HU1.out hu
      clear hu EW HU1 HU2
      subst hue
      go_wp2_with fail
      go_ret
      exact ⟨rfl, HB.trans ((below_alloc _ _).mono HB.size)⟩
    · have k1 := R2.cell 1
      have k2 := R2.cell 2
      have k3 := R2.cell 3
      clear R2
      have hue := HU2.out hu
      clear hu EW HU1 HU2
      subst hue
      go_wp2_with fail
      go_ret
      exact ⟨rfl, HB⟩
    · have R3 := R2.below (below_alloc W6 (.cells #[.int .u8 (n : Int)] 5))
      have k1 := R3.cell 1
      have k2 := R3.cell 2
      have k3 := R3.cell 3
      clear R2 R3
      have hue := HU1.out hu
      clear hu EW HU1 HU2
      subst hue
      go_wp2_with fail
      go_ret
      exact ⟨rfl, HB.trans ((below_alloc _ _).mono HB.size)⟩
    · have R3 := R2.below (below_alloc W6 (.cells #[.int .u8 (n : Int)] 5))
      have k1 := R3.cell 1
      have k2 := R3.cell 2
      have k3 := R3.cell 3
      clear R2 R3
      have hue := HU1.out hu
      clear hu EW HU1 HU2
      subst hue
      go_wp2_with fail
      go_ret
      exact ⟨rfl, HB.trans ((below_alloc _ _).mono HB.size)⟩
    · have k1 := R2.cell 1
      have k2 := R2.cell 2
      have k3 := R2.cell 3
      clear R2
      have hue := HU2.out hu
      clear hu EW HU1 HU2
      subst hue
      go_wp2_with fail
      go_ret
      exact ⟨rfl, HB⟩
    · have R3 := R2.below (below_alloc W6 (.cells #[.int .u8 (n : Int)] 5))
      have k1 := R3.cell 1
      have k2 := R3.cell 2
      have k3 := R3.cell 3
      clear R2 R3
      have hue := HU1.out hu
      clear hu EW HU1 HU2
      subst hue
      go_wp2_with fail
      go_ret
      exact ⟨rfl, HB.trans ((below_alloc _ _).mono HB.size)⟩
    · have R3 := R2.below (below_alloc W6 (.cells #[.int .u8 (n : Int)] 5))
      have k1 := R3.cell 1
      have k2 := R3.cell 2
      have k3 := R3.cell 3
      clear R2 R3
      have hue := HU1.out hu
      clear hu EW HU1 HU2
      subst hue
      go_wp2_with fail
      go_ret
      exact ⟨rfl, HB.trans ((below_alloc _ _).mono HB.size)⟩
    · have k1 := R2.cell 1
      have k2 := R2.cell 2
      have k3 := R2.cell 3
      clear R2
      have hue := HU2.out hu
      clear hu EW HU1 HU2
      subst hue
      go_wp2_with fail
      go_ret
      exact ⟨rfl, HB⟩
  · have hr := er true
    have hle : (escT true n).length = 3 := rfl
    obtain ⟨V2, hV2⟩ : ∃ V, escT true n = V := ⟨_, rfl⟩
    rw [hV2] at es hr hle
    have s1 := fun W => run_string_add_lists (P := Tryd.prog) W [47, 120] V2 (by simp) (by omega)
    have s2 := fun W => run_string_add_lists (P := Tryd.prog) W ([47, 120] ++ V2) [121, 63] (by simp; omega) (by simp)
    have s3 := fun W => run_string_add_lists (P := Tryd.prog) W ([47, 120] ++ V2 ++ [121, 63]) V2 (by simp; omega) (by omega)
    obtain ⟨X3, hX3⟩ : ∃ X, [47, 120] ++ V2 ++ [121, 63] ++ V2 = X := ⟨_, rfl⟩
    have hlX : X3.length ≤ 40000 := by rw [← hX3]; simp; omega
    rw [hX3] at s3 hr
    obtain ⟨X2, hX2⟩ : ∃ X, [47, 120] ++ V2 ++ [121, 63] = X := ⟨_, rfl⟩
    rw [hX2] at s2 s3
    obtain ⟨X1, hX1⟩ : ∃ X, [47, 120] ++ V2 = X := ⟨_, rfl⟩
    rw [hX1] at s1 s2
    have s1' : ∀ W, (Op.stringOp BinOp.add ⟨#[47, 120]⟩ ⟨V2.toArray⟩).run Tryd.prog W = .ok (.string ⟨X1.toArray⟩) W := s1
    have s2' : ∀ W, (Op.stringOp BinOp.add ⟨X1.toArray⟩ ⟨#[121, 63]⟩).run Tryd.prog W = .ok (.string ⟨X2.toArray⟩) W := s2
    have c1 := fun W hW => Read_some hr W hW hlX (by simp)
    simp only at c1
    have C1 := hid c1
    clear c1 s1 s2 hX1 hX2 hX3 hr er hlX hle hV2
    have hn := HN.out
    go_enter Tryd.func5, Tryd.ntmps5
    go_wp2_with (go_at_call 9; refine CA.out.mono ?_; rintro e w1 ⟨rfl, HB⟩)
    go_quiet (fail)
    replace HB := below_drewN HB nq
    generalize w1.drewN nq = w2 at HB ⊢
    clear w1
    go_wp2_with (first
      | (go_at_call 10; with_reducible refine (C1.out _ (OK.out.below HB)).mono ?_; rintro e w3 ⟨rfl, hb3⟩; replace HB := HB.trans (hb3.mono HB.size); have R1a := rowIs_new w3 #[.string ⟨#[]⟩, .string ⟨#[]⟩, .string ⟨#[]⟩, .bool false] 24)
      | (refine wpList_store_row rfl 24 _ _ rfl w3.heap.size _ rfl rfl 24 #[.string ⟨#[]⟩, .string ⟨#[]⟩, .string ⟨#[]⟩, .bool false] R1a infoPlS rfl (onePl _ _ _ _) ?_; have R1 := R1a.setRow #[strV [104], strV PP, strV E, .bool true]; replace HB := below_setRow (HB.trans ((below_alloc w3 (.cells #[.string ⟨#[]⟩, .string ⟨#[]⟩, .string ⟨#[]⟩, .bool false] 24)).mono HB.size)) HB.size #[strV [104], strV PP, strV E, .bool true]; generalize (w3.alloc (.cells #[.string ⟨#[]⟩, .string ⟨#[]⟩, .string ⟨#[]⟩, .bool false] 24)).setRow w3.heap.size #[strV [104], strV PP, strV E, .bool true] = W5 at R1 HB ⊢; generalize w3.heap.size = g1 at R1 ⊢; clear R1a hb3))
    go_quiet (fail)
    have R2 := R1.below (below_drewN (Below.refl _ _) nq)
    replace HB := below_drewN HB nq
    generalize W5.drewN nq = W6 at R2 HB ⊢
    clear R1 s1' s2' s3
    rcases EW.out with ⟨hu, e0, e1, e2, e3⟩ | ⟨hu, e0, e1, e2, e3, e4⟩ | ⟨hu, e0, e1, e2, e3, e4, e5, e6⟩ | ⟨hu, e0, e1, e2, e3⟩ | ⟨hu, e0, e1, e2, e3, e4, e5, e6, e7⟩ | ⟨hu, e0, e1, e2⟩ | ⟨hu, e0, e1, e2, e3, e4, e5, e6, e7⟩ | ⟨hu, e0, e1, e2, e3, e4, e5, e6, e7, e8⟩ | ⟨hu, e0, e1⟩ | ⟨hu, e0, e1, e2, e3, e4, e5, e6, e7, e8, e9⟩ | ⟨hu, e0, e1, e2, e3, e4, e5, e6, e7, e8, e9⟩
    · have R3 := R2.below (below_alloc W6 (.cells #[.int .u8 (n : Int)] 5))
      have k1 := R3.cell 1
      have k2 := R3.cell 2
      have k3 := R3.cell 3
      clear R2 R3
      have hue := HU1.out hu
      clear hu EW HU1 HU2
      subst hue
      go_wp2_with fail
      go_ret
      exact ⟨rfl, HB.trans ((below_alloc _ _).mono HB.size)⟩
    · have R3 := R2.below (below_alloc W6 (.cells #[.int .u8 (n : Int)] 5))
      have k1 := R3.cell 1
      have k2 := R3.cell 2
      have k3 := R3.cell 3
      clear R2 R3
      have hue := HU1.out hu
      clear hu EW HU1 HU2
      subst hue
      go_wp2_with fail
      go_ret
      exact ⟨rfl, HB.trans ((below_alloc _ _).mono HB.size)⟩
    · have k1 := R2.cell 1
      have k2 := R2.cell 2
      have k3 := R2.cell 3
      clear R2
      have hue := HU2.out hu
      clear hu EW HU1 HU2
      subst hue
      go_wp2_with fail
      go_ret
      exact ⟨rfl, HB⟩
    · have R3 := R2.below (below_alloc W6 (.cells #[.int .u8 (n : Int)] 5))
      have k1 := R3.cell 1
      have k2 := R3.cell 2
      have k3 := R3.cell 3
      clear R2 R3
      have hue := HU1.out hu
      clear hu EW HU1 HU2
      subst hue
      go_wp2_with fail
      go_ret
      exact ⟨rfl, HB.trans ((below_alloc _ _).mono HB.size)⟩
    · have k1 := R2.cell 1
      have k2 := R2.cell 2
      have k3 := R2.cell 3
      clear R2
      have hue := HU2.out hu
      clear hu EW HU1 HU2
      subst hue
      go_wp2_with fail
      go_ret
      exact ⟨rfl, HB⟩
    · have R3 := R2.below (below_alloc W6 (.cells #[.int .u8 (n : Int)] 5))
      have k1 := R3.cell 1
      have k2 := R3.cell 2
      have k3 := R3.cell 3
      clear R2 R3
      have hue := HU1.out hu
      clear hu EW HU1 HU2
      subst hue
      go_wp2_with fail
      go_ret
      exact ⟨rfl, HB.trans ((below_alloc _ _).mono HB.size)⟩
    · have R3 := R2.below (below_alloc W6 (.cells #[.int .u8 (n : Int)] 5))
      have k1 := R3.cell 1
      have k2 := R3.cell 2
      have k3 := R3.cell 3
      clear R2 R3
      have hue := HU1.out hu
      clear hu EW HU1 HU2
      subst hue
      go_wp2_with fail
      go_ret
      exact ⟨rfl, HB.trans ((below_alloc _ _).mono HB.size)⟩
    · have k1 := R2.cell 1
      have k2 := R2.cell 2
      have k3 := R2.cell 3
      clear R2
      have hue := HU2.out hu
      clear hu EW HU1 HU2
      subst hue
      go_wp2_with fail
      go_ret
      exact ⟨rfl, HB⟩
    · have R3 := R2.below (below_alloc W6 (.cells #[.int .u8 (n : Int)] 5))
      have k1 := R3.cell 1
      have k2 := R3.cell 2
      have k3 := R3.cell 3
      clear R2 R3
      have hue := HU1.out hu
      clear hu EW HU1 HU2
      subst hue
      go_wp2_with fail
      go_ret
      exact ⟨rfl, HB.trans ((below_alloc _ _).mono HB.size)⟩
    · have R3 := R2.below (below_alloc W6 (.cells #[.int .u8 (n : Int)] 5))
      have k1 := R3.cell 1
      have k2 := R3.cell 2
      have k3 := R3.cell 3
      clear R2 R3
      have hue := HU1.out hu
      clear hu EW HU1 HU2
      subst hue
      go_wp2_with fail
      go_ret
      exact ⟨rfl, HB.trans ((below_alloc _ _).mono HB.size)⟩
    · have k1 := R2.cell 1
      have k2 := R2.cell 2
      have k3 := R2.cell 3
      clear R2
      have hue := HU2.out hu
      clear hu EW HU1 HU2
      subst hue
      go_wp2_with fail
      go_ret
      exact ⟨rfl, HB⟩
end Go.Proofs.YthokpbpnecdgpaaDoor

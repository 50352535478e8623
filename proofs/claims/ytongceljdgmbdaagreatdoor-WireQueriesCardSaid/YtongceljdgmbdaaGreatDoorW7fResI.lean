/-
  strconv.Itoa at a status; its table of powers of ten.
-/
import Derived.Test.YtongceljdgmbdaaGreatDoorW7f10
import Derived.Lib.LaidTab
import Derived.MakeChecks
import Derived.LaidSub

namespace Go.Proofs.YtongceljdgmbdaaGreatDoor
open Go.RowKit Go.Pantry Go.Sort

def Tab10 (w : World) : Prop := Lib.TabIs Tryz.prog w "internal/strconv.uint64pow10" .u64 Lib.pow10Tab
theorem gT10 : Tryz.prog.globalNamed "internal/strconv.uint64pow10" = some 1 := by kernel_rfl
theorem Tab10.below {w w' : World} (h : Tab10 w) (hb : Below w.heap.size w w') : Tab10 w' := by
  unfold Tab10 Lib.TabIs World.var? at h ⊢
  rw [gT10] at h ⊢
  simp only [Option.bind_some] at h ⊢
  have hlt : 1 < w.heap.size := by
    rcases Nat.lt_or_ge 1 w.heap.size with h' | h'
    · exact h'
    · rw [Array.getElem?_eq_none (by simpa using h')] at h
      simp at h
  rw [hb.block _ hlt]
  exact h
theorem digits_small {u : Nat} (h : u < 10) : Lib.decDigits u = [UInt8.ofNat (48 + u)] := by rw [Lib.decDigits, dif_pos h]
theorem digits_big {u : Nat} (h : ¬ u < 10) : Lib.decDigits u = Lib.decDigits (u / 10) ++ [UInt8.ofNat (48 + u % 10)] := by rw [Lib.decDigits, dif_neg h]
theorem itoa_dig3 (n : Nat) (h1 : 100 ≤ n) (h2 : n ≤ 599) : Lib.itoa (n : Int) = dig3 n := by
  unfold Lib.itoa
  rw [if_neg (by omega), Int.toNat_natCast, digits_big (by omega), digits_big (by omega), digits_small (by omega), Nat.div_div_eq_div_mul]
  rfl
theorem below_of_grow (w : World) (k : Nat) (os : Array Obj) : Below w.heap.size w (grow (w.drewN k) os) :=
  ⟨rfl, rfl, rfl, by show w.heap.size ≤ (w.heap ++ os).size; rw [Array.size_append]; omega, fun j hj => by show (w.heap ++ os)[j]? = _; rw [Array.getElem?_append_left hj]⟩
theorem Itoa_any (n : Nat) (h1 : 100 ≤ n) (h2 : n ≤ 599) (w : World) (ht : Tab10 w) :
    Calls Tryz.prog 71 #[.int .i64 (n : Int)] w fun e w' => e = .returned (strV (dig3 n)) ∧ Below w.heap.size w w' := by
  refine (Tryz.strconv_Itoa (n : Int) (by omega) (by omega) w ht).mono ?_
  rintro e w' ⟨rfl, k, os, rfl⟩
  rw [itoa_dig3 n h1 h2]
  exact ⟨rfl, below_of_grow _ _ _⟩
theorem tab10_of {W : World} {L} (h : laidMetH Tryz.prog L W) (hL : (L.filter fun x => x.1 == "internal/strconv.uint64pow10") = [("internal/strconv.uint64pow10", Lib.tabData .u64 Lib.pow10Tab)]) : Tab10 W := by
  have h2 := laidMetH.filter (fun x => x.1 == "internal/strconv.uint64pow10") h
  rw [hL] at h2
  rw [MakeChecks.laidMetH_plain _ _ _ (by kernel_rfl)] at h2
  exact Lib.tabIs_of_head (g := 1) (t := 225) (e := 205) (n := 20) (by kernel_rfl) (by kernel_rfl) Tryz.underlying225 Tryz.underlying205 (by kernel_rfl) (by kernel_rfl) h2
end Go.Proofs.YtongceljdgmbdaaGreatDoor

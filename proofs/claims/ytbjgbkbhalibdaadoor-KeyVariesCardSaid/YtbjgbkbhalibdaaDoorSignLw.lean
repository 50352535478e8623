/-
  Contract of package sign: Lower.
-/
import Derived.Test.YtbjgbkbhalibdaaDoorSignGr
import Derived.Test.YtbjgbkbhalibdaaDoorInfo
namespace Go.Proofs.YtbjgbkbhalibdaaDoor
open Go.RowKit Go.Pantry

theorem Lower_any (s : ByteArray) (w : World) (hs : s.size ≤ maxLen) :
    Calls Tryd.prog 25 #[.string s] w fun e w' => e = .returned (.string ⟨(lowerL s.data.toList).toArray⟩) ∧ Below w.heap.size w w' := by
  unfold maxLen at hs
  have hcv := fun w' => run_bytes_of_string (P := Tryd.prog) w' 9 47 5 s Tryd.underlying9 Tryd.underlying47 Tryd.underlying5
  go_enter Tryd.func25, Tryd.ntmps25
  go_wp2
  clear hcv
  go_loopw [10] (fun i wr => ∃ k : Nat, k ≤ s.size ∧ i = .int .i64 k ∧ bytesAt wr w.heap.size (lowerL (s.data.toList.take k) ++ s.data.toList.drop k) ∧ Below w.heap.size w wr ∧ w.heap.size < wr.heap.size) (fun i _ => s.size - (intOf i).toNat)
  case atStart => exact ⟨0, Nat.zero_le _, rfl, bytesAt_row w s _ _, ((Below.refl _ _).alloc (Nat.le_refl _) _).drew, by simp⟩
  case round =>
    obtain ⟨k, hk, rfl, hby, hb, hsz⟩ := hrel
    have HY := hid hby
    clear hby
    by_cases hlt : k < s.size
    · have hcell : wr.cell? ⟨w.heap.size, k, none⟩ = some (.int .u8 (s[k].toNat : Int)) := HY.out.cell k _ (lower_mid s k hlt)
      have hfree : wr.frozen? ⟨w.heap.size, k, none⟩ = false := HY.out.free k (lower_len s k hlt)
      go_wp2_with (go_at_call 36; refine (great_any _ _).mono ?_; rintro e w' ⟨rfl, rfl⟩)
      · have hu : isUp s[k] = true := by assumption
        go_roundw
        case rel =>
          refine ⟨k + 1, by omega, by go_num, ?_, hb.setCell (by simp) _, by simpa [World.setCell] using hsz⟩
          rw [low_int hu, ← lower_step s k hlt]
          exact HY.out.set k (lower_len s k hlt) _
        case measure => simp [intOf]; omega
      · have hu : isUp s[k] = false := by assumption
        go_roundw
        case rel => exact ⟨k + 1, by omega, by go_num, by rw [← lower_same s k hlt hu]; exact HY.out, hb, hsz⟩
        case measure => simp [intOf]; omega
    · have hback := HY.out.back 47 9 5 s.size (grownCap w s.size 0 5) (by simp [lowerL]; omega) Tryd.underlying47 Tryd.underlying5 Tryd.underlying9
      go_wp2
      go_ret
      refine ⟨ret_str ?_, hb⟩
      rw [take_all s k hlt, drop_nil s k hlt, List.append_nil]
end Go.Proofs.YtbjgbkbhalibdaaDoor

/-
  Package disk: it is a disk.
-/
import Derived.Test.YtgdeiokaicjkdaaDiskI
import Derived.Test.YtgdeiokaicjkdaaDiskG
import Derived.Test.YtgdeiokaicjkdaaLaw15S
set_option linter.unusedVariables false
set_option linter.unusedSimpArgs false
namespace Go.Proofs.Ytgdeiokaicjkdaa
open Go.RowKit Go.Pantry

theorem r15_bad {w : World} {g : Nat} {F : Nat → Prop} {m : DiskM} (i : Int) (on : Bool) (h : R15 w g F m) : Calls Try.prog 19 #[.pointer (some ⟨g, 0, none⟩), .int .i64 i, .bool on] w fun e w' => e = .returned (.int .i64 ((badDk m i on).1 : Int)) ∧ WritPost R15 w g F (badDk m i on).2 e w' := by
  obtain ⟨gs, gm, gb, N, left, D, h, rfl⟩ := h
  exact (lBad_any g gs gm gb N left D m i on w h).mono fun e w' h => h.writ
theorem disks_ok : Disks (fun _ => True) R15 where
  keep := fun _ _ => trivial
  kept := r15_kept
  lt := r15_lt
  ok := r15_ok
  new := fun w n _ h1 h2 => r15_new w n h1 h2
  nothing := fun w n _ _ hn => lNew_none n w hn
  len := r15_len
  down := r15_down
  pending := fun _ h => r15_pending h
  read := fun i _ _ h => r15_read i h
  write := fun i vd b _ _ h hb hd => r15_write i vd b h (bytesRead hb) hd
  flush := fun _ h => r15_flush h
  bad := fun i on _ _ h => r15_bad i on h
  arm := fun n _ hn h => r15_arm n hn h
  crash := fun vk keep _ h hr hk => r15_crash vk keep h hr hk
end Go.Proofs.Ytgdeiokaicjkdaa
